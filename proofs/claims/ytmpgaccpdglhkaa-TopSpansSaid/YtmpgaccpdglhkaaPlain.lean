/- Several texts in one. -/
/- Plain mathematics of programs and states: no Go in it. -/
set_option linter.unusedVariables false
set_option linter.unusedSimpArgs false
namespace Tinker

/-- A line: its operation and its three numbers. -/
structure L where
  op : Int
  to : Int
  a : Int
  b : Int

def btw (n lo hi : Int) : Bool := decide (lo ≤ n) && decide (n ≤ hi)

def isReg (n : Int) : Bool := btw n 0 3

/-- Which lines are valid. -/
def isLn (l : L) : Bool :=
  if l.op = 0 then l.to == 0 && l.a == 0 && l.b == 0
  else if l.op = 1 then isReg l.to && btw l.a (-9) 9 && l.b == 0
  else if l.op = 2 then isReg l.to && isReg l.a && l.b == 0
  else if 3 ≤ l.op ∧ l.op ≤ 6 then isReg l.to && isReg l.a && isReg l.b
  else if l.op = 7 then btw l.to 1 8 && isReg l.a && isReg l.b
  else false

def wr (l : L) : Bool := l.op != 0 && l.op != 7

def cutv (n : Int) : Int := max (-999) (min n 999)

/-- The number of a register in a state. -/
def rg (s : List Int) (n : Int) : Int := s.getD n.toNat 0

/-- What a line that writes makes of a state. -/
def valOf (l : L) (s : List Int) : Int :=
  if l.op = 1 then l.a
  else if l.op = 2 then rg s l.a
  else if l.op = 3 then rg s l.a + rg s l.b
  else if l.op = 4 then rg s l.a - rg s l.b
  else if l.op = 5 then min (rg s l.a) (rg s l.b)
  else max (rg s l.a) (rg s l.b)

def skips (l : L) (s : List Int) : Bool := l.op == 7 && decide (rg s l.a < rg s l.b)

theorem btw_true' {n lo hi : Int} : btw n lo hi = true ↔ lo ≤ n ∧ n ≤ hi := by simp [btw]
/-- What a number of a line may be, by its kind. -/
def allowsK (k n : Int) : Bool := if k = 1 then isReg n else if k = 2 then btw n (-9) 9 else if k = 3 then btw n 1 8 else n == 0

/-- Which registers a valid line reads. -/
def rd (l : L) : List Bool :=
  let s := if 2 ≤ l.op then [false, false, false, false].set l.a.toNat true else [false, false, false, false]
  if 3 ≤ l.op then s.set l.b.toNat true else s

theorem rd_length (l : L) : (rd l).length = 4 := by unfold rd; split <;> split <;> simp

theorem isReg_iff {n : Int} : isReg n = true ↔ 0 ≤ n ∧ n ≤ 3 := by simp [isReg, btw]
/-- What is known of a valid line's numbers. -/
theorem isLn_op {l : L} (h : isLn l = true) : 0 ≤ l.op ∧ l.op ≤ 7 := by
  unfold isLn at h
  split at h <;> (try omega)
  split at h <;> (try omega)
  split at h <;> (try omega)
  split at h <;> (try omega)
  split at h <;> (try omega)
  cases h
theorem isLn_to {l : L} (h : isLn l = true) (h1 : 1 ≤ l.op) (h2 : l.op ≤ 6) : 0 ≤ l.to ∧ l.to ≤ 3 := by
  unfold isLn at h
  rw [if_neg (by omega)] at h
  split at h
  · simp only [Bool.and_eq_true] at h; exact isReg_iff.1 h.1.1
  · split at h
    · simp only [Bool.and_eq_true] at h; exact isReg_iff.1 h.1.1
    · rw [if_pos (by omega)] at h
      simp only [Bool.and_eq_true] at h; exact isReg_iff.1 h.1.1
theorem isLn_a {l : L} (h : isLn l = true) (h1 : 2 ≤ l.op) : 0 ≤ l.a ∧ l.a ≤ 3 := by
  have h7 := isLn_op h
  unfold isLn at h
  rw [if_neg (by omega), if_neg (by omega)] at h
  split at h
  · simp only [Bool.and_eq_true] at h; exact isReg_iff.1 h.1.2
  · split at h
    · simp only [Bool.and_eq_true] at h; exact isReg_iff.1 h.1.2
    · rw [if_pos (by omega)] at h
      simp only [Bool.and_eq_true] at h; exact isReg_iff.1 h.1.2
theorem isLn_b {l : L} (h : isLn l = true) (h1 : 3 ≤ l.op) : 0 ≤ l.b ∧ l.b ≤ 3 := by
  have h7 := isLn_op h
  unfold isLn at h
  rw [if_neg (by omega), if_neg (by omega), if_neg (by omega)] at h
  split at h
  · simp only [Bool.and_eq_true] at h; exact isReg_iff.1 h.2
  · rw [if_pos (by omega)] at h
    simp only [Bool.and_eq_true] at h; exact isReg_iff.1 h.2
theorem isLn_skip {l : L} (h : isLn l = true) (h1 : l.op = 7) : 1 ≤ l.to ∧ l.to ≤ 8 := by
  unfold isLn at h
  rw [if_neg (by omega), if_neg (by omega), if_neg (by omega), if_neg (by omega), if_pos h1] at h
  simp only [Bool.and_eq_true] at h; exact btw_true'.1 h.1.1

theorem btw_eq (n lo hi : Int) : btw n lo hi = (decide (lo ≤ n) && decide (n ≤ hi)) := rfl
theorem btw_true {n lo hi : Int} : btw n lo hi = true ↔ lo ≤ n ∧ n ≤ hi := by simp [btw]
theorem btw_false {n lo hi : Int} (h : n < lo ∨ hi < n) : btw n lo hi = false := by
  simp only [btw, Bool.and_eq_false_iff, decide_eq_false_iff_not]; omega
theorem cutv_low {n : Int} (h : n ≤ -999) : cutv n = -999 := by unfold cutv; omega
theorem cutv_high {n : Int} (h : 999 ≤ n) : cutv n = 999 := by unfold cutv; omega
theorem cutv_mid {n : Int} (h : -999 ≤ n) (h' : n ≤ 999) : cutv n = n := by unfold cutv; omega
theorem cutv_bd (n : Int) : -999 ≤ cutv n ∧ cutv n ≤ 999 := by unfold cutv; omega

end Tinker

/- Plain mathematics, second part: what is valid. -/
set_option linter.unusedVariables false
set_option linter.unusedSimpArgs false
namespace Tinker

/-- What Validate answers. -/
def vp (p : List L) : Int := if 8 < p.length then 3 else if p.all isLn then 0 else 1
/-- Whether all numbers are from lo to hi. -/
def allBtw (s : List Int) (lo hi : Int) : Bool := s.all (btw · lo hi)
/-- What ValidateState answers. -/
def vs (s : List Int) : Int := if s.length = 4 ∧ allBtw s (-999) 999 = true then 0 else 1
/-- The first error of two. -/
def fe (a b : Int) : Int := if a = 0 then b else a
/-- The errors of a program and a state. -/
def vr (p : List L) (s : List Int) : Int := fe (vp p) (vs s)
/-- Strictly ascending. -/
def isSetB : List Int → Bool
  | [] => true
  | [_] => true
  | x :: y :: r => decide (x < y) && isSetB (y :: r)

theorem vp_ok {p : List L} (h : vp p = 0) : p.length ≤ 8 ∧ ∀ l ∈ p, isLn l = true := by
  unfold vp at h
  split at h
  · omega
  · split at h
    · rename_i h1 h2; exact ⟨by omega, fun l hl => List.all_eq_true.1 h2 l hl⟩
    · omega
theorem vp_ok' {p : List L} (h1 : p.length ≤ 8) (h2 : ∀ l ∈ p, isLn l = true) : vp p = 0 := by
  unfold vp; rw [if_neg (by omega), if_pos (List.all_eq_true.2 h2)]
theorem vp_cases (p : List L) : vp p = 0 ∨ vp p = 3 ∨ vp p = 1 := by unfold vp; split <;> (try split) <;> simp
theorem vs_ok {s : List Int} (h : vs s = 0) : s.length = 4 ∧ ∀ n ∈ s, -999 ≤ n ∧ n ≤ 999 := by
  unfold vs at h
  split at h
  · rename_i h1; exact ⟨h1.1, fun n hn => btw_true.1 (List.all_eq_true.1 h1.2 n hn)⟩
  · omega
theorem vs_ok' {s : List Int} (h1 : s.length = 4) (h2 : ∀ n ∈ s, -999 ≤ n ∧ n ≤ 999) : vs s = 0 := by
  unfold vs; rw [if_pos ⟨h1, List.all_eq_true.2 fun n hn => btw_true.2 (h2 n hn)⟩]
theorem vs_cases (s : List Int) : vs s = 0 ∨ vs s = 1 := by unfold vs; split <;> simp
theorem vr_ok {p : List L} {s : List Int} (h : vr p s = 0) : vp p = 0 ∧ vs s = 0 := by
  unfold vr fe at h; split at h
  · exact ⟨by assumption, h⟩
  · contradiction
theorem vr_cases (p : List L) (s : List Int) : vr p s = 0 ∨ vr p s = 3 ∨ vr p s = 1 := by
  unfold vr fe
  rcases vp_cases p with h | h | h <;> rcases vs_cases s with h' | h' <;> simp [h, h']

/-- isSetB by places. -/
theorem isSetB_iff : ∀ (l : List Int), isSetB l = true ↔ ∀ i, i + 1 < l.length → l.getD i 0 < l.getD (i + 1) 0
  | [] => by simp [isSetB]
  | [x] => by simp [isSetB]
  | x :: y :: r => by
    rw [isSetB, Bool.and_eq_true, isSetB_iff (y :: r), decide_eq_true_eq]
    constructor
    · rintro ⟨h, h'⟩ i hi
      cases i with
      | zero => simpa using h
      | succ i => have := h' i (by simpa using hi); simpa using this
    · intro h
      exact ⟨by simpa using h 0 (by simp), fun i hi => by simpa using h (i + 1) (by simpa using hi)⟩

theorem getD_of_get {α : Type} {l : List α} {k : Nat} {x d : α} (h : l[k]? = some x) : l.getD k d = x := by
  rw [List.getD_eq_getElem?_getD, h]; rfl
theorem get_of_lt {α : Type} {l : List α} {k : Nat} (h : k < l.length) : ∃ x, l[k]? = some x := ⟨l[k], List.getElem?_eq_getElem h⟩
theorem take_snoc {α : Type} {l : List α} {k : Nat} {x : α} (h : l[k]? = some x) : l.take (k + 1) = l.take k ++ [x] := by
  obtain ⟨hk, rfl⟩ := List.getElem?_eq_some_iff.1 h
  rw [List.take_succ_eq_append_getElem hk]
theorem mem_of_get {α : Type} {l : List α} {k : Nat} {x : α} (h : l[k]? = some x) : x ∈ l := List.mem_of_getElem? h
theorem all_snoc {α : Type} {l : List α} {k : Nat} {x : α} {f : α → Bool} (h : (l.take k).all f = true) (hx : l[k]? = some x) (hf : f x = true) : (l.take (k + 1)).all f = true := by
  rw [take_snoc hx, List.all_append, h]; simp [hf]
theorem all_not {α : Type} {l : List α} {k : Nat} {x : α} {f : α → Bool} (hx : l[k]? = some x) (hf : f x = false) : l.all f = false := by
  rw [Bool.eq_false_iff]; intro h
  have := List.all_eq_true.1 h x (mem_of_get hx)
  rw [hf] at this; cases this
theorem all_whole {α : Type} {l : List α} {k : Nat} {f : α → Bool} (h : (l.take k).all f = true) (hk : ¬ k < l.length) : l.all f = true := by
  rwa [List.take_of_length_le (by omega)] at h
theorem vp_bad {p : List L} (h8 : p.length ≤ 8) (h : p.all isLn = false) : vp p = 1 := by unfold vp; rw [if_neg (by omega), if_neg (by simp [h])]
theorem vp_good {p : List L} (h8 : p.length ≤ 8) (h : p.all isLn = true) : vp p = 0 := by unfold vp; rw [if_neg (by omega), if_pos h]
theorem vp_large {p : List L} (h8 : 8 < p.length) : vp p = 3 := by unfold vp; rw [if_pos h8]

end Tinker

/- Plain mathematics, third part: how a program runs. -/
set_option linter.unusedVariables false
set_option linter.unusedSimpArgs false
namespace Tinker

def nxt (l : L) (s : List Int) (i : Nat) : Nat := if skips l s then i + 1 + l.to.toNat else i + 1
def stp (l : L) (s : List Int) (o : Option Int) : List Int := if wr l then s.set l.to.toNat (o.getD (cutv (valOf l s))) else s

/-- The lines that are done, from the line i and the state s on, each with the state before it; and the state at the end. f: what lines are forced to write. -/
def tr (p : List L) (f : Nat → Option Int) (i : Nat) (s : List Int) : List (Nat × List Int) × List Int :=
  if h : i < p.length then
    let r := tr p f (nxt p[i] s i) (stp p[i] s (f i))
    ((i, s) :: r.1, r.2)
  else ([], s)
termination_by p.length - i
decreasing_by unfold nxt; split <;> omega

theorem nxt_gt (l : L) (s : List Int) (i : Nat) : i < nxt l s i := by unfold nxt; split <;> omega
theorem tr_lt {p : List L} {f : Nat → Option Int} {i : Nat} {s : List Int} {l : L} (h : p[i]? = some l) :
    tr p f i s = ((i, s) :: (tr p f (nxt l s i) (stp l s (f i))).1, (tr p f (nxt l s i) (stp l s (f i))).2) := by
  obtain ⟨hi, rfl⟩ := List.getElem?_eq_some_iff.1 h
  rw [tr, dif_pos hi]
theorem tr_ge {p : List L} {f : Nat → Option Int} {i : Nat} {s : List Int} (h : p.length ≤ i) : tr p f i s = ([], s) := by
  rw [tr, dif_neg (by omega)]

theorem stp_length (l : L) (s : List Int) (o : Option Int) : (stp l s o).length = s.length := by unfold stp; split <;> simp

/-- All numbers of a state are within the bounds. -/
def okS (s : List Int) : Prop := s.length = 4 ∧ ∀ n ∈ s, -999 ≤ n ∧ n ≤ 999
/-- What forced lines write is within the bounds, and only lines that write are forced. -/
def okF (p : List L) (f : Nat → Option Int) : Prop := ∀ i n, f i = some n → (-999 ≤ n ∧ n ≤ 999) ∧ ∀ l, p[i]? = some l → wr l = true

theorem okS_rg {s : List Int} (h : okS s) (n : Int) : -999 ≤ rg s n ∧ rg s n ≤ 999 := by
  unfold rg
  rw [List.getD_eq_getElem?_getD]
  cases hq : s[n.toNat]? with
  | none => simp
  | some x => simpa using h.2 x (List.mem_of_getElem? hq)
theorem okS_stp {l : L} {s : List Int} {o : Option Int} (h : okS s) (ho : ∀ n, o = some n → -999 ≤ n ∧ n ≤ 999) : okS (stp l s o) := by
  refine ⟨by rw [stp_length, h.1], ?_⟩
  unfold stp
  split
  · intro n hn
    rcases List.mem_or_eq_of_mem_set hn with h1 | h1
    · exact h.2 n h1
    · subst h1
      cases o with
      | none => exact cutv_bd _
      | some x => exact ho x rfl
  · exact h.2

/-- The lines that are done, as bools. -/
def doneL (st : List (Nat × List Int)) : List Bool := st.foldl (fun d x => d.set x.1 true) (List.replicate 8 false)
/-- Four numbers in the place of those from 4 i on. -/
def put4 (d : List Int) (i : Nat) (s : List Int) : List Int := (((d.set (i * 4) (s.getD 0 0)).set (i * 4 + 1) (s.getD 1 0)).set (i * 4 + 2) (s.getD 2 0)).set (i * 4 + 3) (s.getD 3 0)
/-- The states before the lines that are done. -/
def befL (st : List (Nat × List Int)) : List Int := st.foldl (fun d x => put4 d x.1 x.2) (List.replicate 32 0)

theorem doneL_snoc (st : List (Nat × List Int)) (i : Nat) (s : List Int) : doneL (st ++ [(i, s)]) = (doneL st).set i true := by simp [doneL, List.foldl_append]
theorem befL_snoc (st : List (Nat × List Int)) (i : Nat) (s : List Int) : befL (st ++ [(i, s)]) = put4 (befL st) i s := by simp [befL, List.foldl_append]
theorem foldl_set_length : ∀ (st : List (Nat × List Int)) (d : List Bool), (st.foldl (fun d x => d.set x.1 true) d).length = d.length
  | [], d => rfl
  | x :: r, d => by rw [List.foldl_cons, foldl_set_length r]; simp
theorem doneL_length (st : List (Nat × List Int)) : (doneL st).length = 8 := by unfold doneL; rw [foldl_set_length]; simp
theorem put4_length (d : List Int) (i : Nat) (s : List Int) : (put4 d i s).length = d.length := by simp [put4]
theorem foldl_put_length : ∀ (st : List (Nat × List Int)) (d : List Int), (st.foldl (fun d x => put4 d x.1 x.2) d).length = d.length
  | [], d => rfl
  | x :: r, d => by rw [List.foldl_cons, foldl_put_length r, put4_length]
theorem befL_length (st : List (Nat × List Int)) : (befL st).length = 32 := by unfold befL; rw [foldl_put_length]; simp

/-- The lines that are done come in ascending order, from i on, and are lines of the program. -/
theorem tr_from (p : List L) (f : Nat → Option Int) : ∀ (n i : Nat) (s : List Int), p.length - i ≤ n → ∀ x ∈ (tr p f i s).1, i ≤ x.1 ∧ x.1 < p.length
  | 0, i, s, h, x, hx => by rw [tr_ge (by omega)] at hx; simp at hx
  | n + 1, i, s, h, x, hx => by
    rcases Nat.lt_or_ge i p.length with hi | hi
    · obtain ⟨l, hl⟩ := get_of_lt hi
      rw [tr_lt hl] at hx
      rcases List.mem_cons.1 hx with rfl | hx
      · exact ⟨Nat.le_refl _, hi⟩
      · have hg := nxt_gt l s i
        have := tr_from p f n _ _ (by omega) x hx
        exact ⟨by omega, this.2⟩
    · rw [tr_ge hi] at hx; simp at hx
/-- The state at the end, and each state on the way, is within the bounds. -/
theorem tr_ok {p : List L} {f : Nat → Option Int} (hf : okF p f) : ∀ (n i : Nat) (s : List Int), p.length - i ≤ n → okS s → okS (tr p f i s).2 ∧ ∀ x ∈ (tr p f i s).1, okS x.2
  | 0, i, s, h, hs => by rw [tr_ge (by omega)]; exact ⟨hs, by simp⟩
  | n + 1, i, s, h, hs => by
    rcases Nat.lt_or_ge i p.length with hi | hi
    · obtain ⟨l, hl⟩ := get_of_lt hi
      have hg := nxt_gt l s i
      have ih := tr_ok hf n (nxt l s i) (stp l s (f i)) (by omega) (okS_stp hs fun m hm => (hf i m hm).1)
      rw [tr_lt hl]
      refine ⟨ih.1, fun x hx => ?_⟩
      rcases List.mem_cons.1 hx with rfl | hx
      · exact hs
      · exact ih.2 x hx
    · rw [tr_ge hi]; exact ⟨hs, by simp⟩

/-- Nothing is forced. -/
def noF : Nat → Option Int := fun _ => none
theorem okF_no (p : List L) : okF p noF := fun i n h => by cases h
/-- The state at the end of a run. -/
def runE (p : List L) (s : List Int) : List Int := (tr p noF 0 s).2
/-- The steps of a run. -/
def runS (p : List L) (s : List Int) : List (Nat × List Int) := (tr p noF 0 s).1

end Tinker

/- Plain mathematics, fourth part: places. -/
set_option linter.unusedVariables false
set_option linter.unusedSimpArgs false
namespace Tinker

/-- The places below k at which a list is true. -/
def plcTo (l : List Bool) (k : Nat) : List Int := ((List.range k).filter (fun i => l.getD i false)).map Int.ofNat
/-- The places at which a list is true. -/
def plc (l : List Bool) : List Int := plcTo l l.length

theorem plcTo_zero (l : List Bool) : plcTo l 0 = [] := rfl
theorem plcTo_yes {l : List Bool} {k : Nat} (h : l[k]? = some true) : plcTo l (k + 1) = plcTo l k ++ [(k : Int)] := by
  unfold plcTo
  rw [List.range_succ, List.filter_append, List.map_append]
  have e : [k].filter (fun i => l.getD i false) = [k] := by simp [h]
  rw [e]; rfl
theorem plcTo_no {l : List Bool} {k : Nat} (h : l[k]? = some false) : plcTo l (k + 1) = plcTo l k := by
  unfold plcTo
  rw [List.range_succ, List.filter_append, List.map_append]
  have e : [k].filter (fun i => l.getD i false) = [] := by simp [h]
  rw [e]; simp
theorem plcTo_length (l : List Bool) (k : Nat) : (plcTo l k).length ≤ k := by
  unfold plcTo
  rw [List.length_map]
  exact Nat.le_trans (List.length_filter_le _ _) (by simp)

end Tinker

/- Plain mathematics of boxes and spans: no Go in it. -/
set_option linter.unusedVariables false
set_option linter.unusedSimpArgs false
namespace Tinker

/-- A range of numbers. -/
structure Rg where
  lo : Int
  hi : Int
def rg0 : Rg := ⟨0, 0⟩
def okG (x : Rg) : Bool := btw x.lo (-999) 999 && (btw x.hi (-999) 999 && decide (x.lo ≤ x.hi))
/-- What Validate of span answers. -/
def vb (b : List Rg) : Int := if b.length = 4 ∧ b.all okG = true then 0 else 1
def gAt (b : List Rg) (n : Int) : Rg := b.getD n.toNat rg0
def inG (x : Rg) (n : Int) : Bool := btw n x.lo x.hi
def subG (x y : Rg) : Bool := decide (y.lo ≤ x.lo) && decide (x.hi ≤ y.hi)
def hullG (x y : Rg) : Rg := ⟨min x.lo y.lo, max x.hi y.hi⟩
def meetG (x y : Rg) : Rg := ⟨max x.lo y.lo, min x.hi y.hi⟩
def cutG (x : Rg) : Rg := ⟨cutv x.lo, cutv x.hi⟩
def memTo (b : List Rg) (s : List Int) (k : Nat) : Bool := (List.range k).all fun i => inG (b.getD i rg0) (s.getD i 0)
def memB (b : List Rg) (s : List Int) : Bool := memTo b s 4
def subTo (a b : List Rg) (k : Nat) : Bool := (List.range k).all fun i => subG (a.getD i rg0) (b.getD i rg0)
def subB (a b : List Rg) : Bool := subTo a b 4
def hullB (a b : List Rg) : List Rg := List.zipWith hullG a b
def meetB (a b : List Rg) : List Rg := List.zipWith meetG a b
def szTo (b : List Rg) : Nat → Int
  | 0 => 0
  | k + 1 => szTo b k + ((b.getD k rg0).hi - (b.getD k rg0).lo)
def szB (b : List Rg) : Int := szTo b 4
def ptB (s : List Int) : List Rg := s.map fun n => ⟨n, n⟩
def conB (lo hi : List Int) : List Rg := List.zipWith (fun a b => ⟨a, b⟩) lo hi

theorem Rg.ext {x y : Rg} (h1 : x.lo = y.lo) (h2 : x.hi = y.hi) : x = y := by cases x; cases y; simp_all
theorem okG_iff {x : Rg} : okG x = true ↔ (-999 ≤ x.lo ∧ x.lo ≤ 999) ∧ (-999 ≤ x.hi ∧ x.hi ≤ 999) ∧ x.lo ≤ x.hi := by
  unfold okG; simp only [Bool.and_eq_true, btw_true, decide_eq_true_eq]
/-- A valid box. -/
structure OkB (b : List Rg) : Prop where
  l4 : b.length = 4
  ok : ∀ x ∈ b, okG x = true
theorem vb_ok {b : List Rg} (h : vb b = 0) : OkB b := by
  unfold vb at h
  split at h
  · rename_i h1; exact ⟨h1.1, fun x hx => List.all_eq_true.1 h1.2 x hx⟩
  · omega
theorem vb_ok' {b : List Rg} (h : OkB b) : vb b = 0 := by unfold vb; rw [if_pos ⟨h.l4, List.all_eq_true.2 h.ok⟩]
theorem vb_cases (b : List Rg) : vb b = 0 ∨ vb b = 1 := by unfold vb; split <;> simp
theorem vb_len {b : List Rg} (h : b.length ≠ 4) : vb b = 1 := by unfold vb; rw [if_neg (fun e => h e.1)]
theorem vb_bad {b : List Rg} {k : Nat} {x : Rg} (hx : b[k]? = some x) (h : okG x = false) : vb b = 1 := by
  unfold vb; rw [if_neg]; rintro ⟨_, h2⟩
  have := List.all_eq_true.1 h2 x (mem_of_get hx)
  rw [h] at this; cases this
theorem vb_all {b : List Rg} (h : b.length = 4) (h2 : b.all okG = true) : vb b = 0 := by unfold vb; rw [if_pos ⟨h, h2⟩]
theorem rg_list4 {b : List Rg} (h : b.length = 4) : ∃ x0 x1 x2 x3, b = [x0, x1, x2, x3] := by
  match b, h with
  | [a, b, c, d], _ => exact ⟨a, b, c, d, rfl⟩
theorem int_list4 {s : List Int} (h : s.length = 4) : ∃ x0 x1 x2 x3, s = [x0, x1, x2, x3] := by
  match s, h with
  | [a, b, c, d], _ => exact ⟨a, b, c, d, rfl⟩
theorem OkB.at_ {b : List Rg} (h : OkB b) {k : Nat} (hk : k < 4) : okG (b.getD k rg0) = true := by
  obtain ⟨x, hx⟩ := get_of_lt (show k < b.length by rw [h.l4]; exact hk)
  rw [getD_of_get hx]; exact h.ok x (mem_of_get hx)
theorem OkB.g {b : List Rg} (h : OkB b) {n : Int} (h0 : 0 ≤ n) (h3 : n ≤ 3) : okG (gAt b n) = true := h.at_ (by omega)
theorem okB_iff {b : List Rg} (h4 : b.length = 4) : OkB b ↔ ∀ k, k < 4 → okG (b.getD k rg0) = true := by
  refine ⟨fun h k hk => h.at_ hk, fun h => ⟨h4, fun x hx => ?_⟩⟩
  obtain ⟨k, hk⟩ := List.mem_iff_getElem?.1 hx
  have hl := (List.getElem?_eq_some_iff.1 hk).1
  have := h k (by omega)
  rwa [getD_of_get hk] at this

theorem memTo_succ {b : List Rg} {s : List Int} {k : Nat} : memTo b s (k + 1) = (memTo b s k && inG (b.getD k rg0) (s.getD k 0)) := by
  unfold memTo; rw [List.range_succ, List.all_append]; simp
theorem memTo_at {b : List Rg} {s : List Int} {k m : Nat} (h : memTo b s m = true) (hk : k < m) : inG (b.getD k rg0) (s.getD k 0) = true := List.all_eq_true.1 h k (List.mem_range.2 hk)
theorem memTo_not {b : List Rg} {s : List Int} {k m : Nat} (hk : k < m) (h : inG (b.getD k rg0) (s.getD k 0) = false) : memTo b s m = false := by
  cases hc : memTo b s m
  · rfl
  · rw [memTo_at hc hk] at h; cases h
theorem memB_iff {b : List Rg} {s : List Int} : memB b s = true ↔ ∀ k, k < 4 → inG (b.getD k rg0) (s.getD k 0) = true :=
  ⟨fun h k hk => memTo_at h hk, fun h => List.all_eq_true.2 fun k hk => h k (List.mem_range.1 hk)⟩
theorem subTo_succ {a b : List Rg} {k : Nat} : subTo a b (k + 1) = (subTo a b k && subG (a.getD k rg0) (b.getD k rg0)) := by
  unfold subTo; rw [List.range_succ, List.all_append]; simp
theorem subTo_at {a b : List Rg} {k m : Nat} (h : subTo a b m = true) (hk : k < m) : subG (a.getD k rg0) (b.getD k rg0) = true := List.all_eq_true.1 h k (List.mem_range.2 hk)
theorem subTo_not {a b : List Rg} {k m : Nat} (hk : k < m) (h : subG (a.getD k rg0) (b.getD k rg0) = false) : subTo a b m = false := by
  cases hc : subTo a b m
  · rfl
  · rw [subTo_at hc hk] at h; cases h
theorem subB_iff {a b : List Rg} : subB a b = true ↔ ∀ k, k < 4 → subG (a.getD k rg0) (b.getD k rg0) = true :=
  ⟨fun h k hk => subTo_at h hk, fun h => List.all_eq_true.2 fun k hk => h k (List.mem_range.1 hk)⟩
theorem inG_iff {x : Rg} {n : Int} : inG x n = true ↔ x.lo ≤ n ∧ n ≤ x.hi := btw_true
theorem subG_iff {x y : Rg} : subG x y = true ↔ y.lo ≤ x.lo ∧ x.hi ≤ y.hi := by unfold subG; simp
theorem getD_zip {α : Type} {f : Rg → Rg → α} {d : α} {a b : List Rg} {k : Nat} (ha : k < a.length) (hb : k < b.length) : (List.zipWith f a b).getD k d = f (a.getD k rg0) (b.getD k rg0) := by
  obtain ⟨x, hx⟩ := get_of_lt ha
  obtain ⟨y, hy⟩ := get_of_lt hb
  rw [getD_of_get hx, getD_of_get hy, List.getD_eq_getElem?_getD, List.getElem?_zipWith, hx, hy]; rfl
theorem len_zip {α : Type} {f : Rg → Rg → α} {a b : List Rg} (ha : a.length = 4) (hb : b.length = 4) : (List.zipWith f a b).length = 4 := by rw [List.length_zipWith, ha, hb]; rfl
theorem hullB_l {a b : List Rg} (ha : a.length = 4) (hb : b.length = 4) : (hullB a b).length = 4 := len_zip ha hb
theorem meetB_l {a b : List Rg} (ha : a.length = 4) (hb : b.length = 4) : (meetB a b).length = 4 := len_zip ha hb
theorem hullB_at {a b : List Rg} (ha : a.length = 4) (hb : b.length = 4) {k : Nat} (hk : k < 4) : (hullB a b).getD k rg0 = hullG (a.getD k rg0) (b.getD k rg0) := getD_zip (by omega) (by omega)
theorem meetB_at {a b : List Rg} (ha : a.length = 4) (hb : b.length = 4) {k : Nat} (hk : k < 4) : (meetB a b).getD k rg0 = meetG (a.getD k rg0) (b.getD k rg0) := getD_zip (by omega) (by omega)
theorem okB_hull {a b : List Rg} (ha : OkB a) (hb : OkB b) : OkB (hullB a b) := by
  rw [okB_iff (hullB_l ha.l4 hb.l4)]
  intro k hk
  rw [hullB_at ha.l4 hb.l4 hk]
  have h1 := okG_iff.1 (ha.at_ hk)
  have h2 := okG_iff.1 (hb.at_ hk)
  rw [okG_iff]; unfold hullG; simp only; omega
theorem sub_hull1 {a b : List Rg} (ha : a.length = 4) (hb : b.length = 4) : subB a (hullB a b) = true := by
  rw [subB_iff]; intro k hk; rw [hullB_at ha hb hk, subG_iff]; unfold hullG; simp only; omega
theorem sub_hull2 {a b : List Rg} (ha : a.length = 4) (hb : b.length = 4) : subB b (hullB a b) = true := by
  rw [subB_iff]; intro k hk; rw [hullB_at ha hb hk, subG_iff]; unfold hullG; simp only; omega
theorem sub_refl (a : List Rg) : subB a a = true := by rw [subB_iff]; intro k hk; rw [subG_iff]; omega
theorem sub_trans {a b c : List Rg} (h1 : subB a b = true) (h2 : subB b c = true) : subB a c = true := by
  rw [subB_iff] at *; intro k hk; have a1 := subG_iff.1 (h1 k hk); have a2 := subG_iff.1 (h2 k hk); rw [subG_iff]; omega
theorem mem_sub {a b : List Rg} {s : List Int} (h1 : subB a b = true) (h2 : memB a s = true) : memB b s = true := by
  rw [subB_iff] at h1; rw [memB_iff] at *; intro k hk; have a1 := subG_iff.1 (h1 k hk); have a2 := inG_iff.1 (h2 k hk); rw [inG_iff]; omega
theorem hull_mono {a b c d : List Rg} (ha : a.length = 4) (hb : b.length = 4) (hc : c.length = 4) (hd : d.length = 4) (h1 : subB a c = true) (h2 : subB b d = true) : subB (hullB a b) (hullB c d) = true := by
  rw [subB_iff] at *; intro k hk
  have a1 := subG_iff.1 (h1 k hk); have a2 := subG_iff.1 (h2 k hk)
  rw [hullB_at ha hb hk, hullB_at hc hd hk, subG_iff]; unfold hullG; simp only; omega
theorem hull_mono1 {a c d : List Rg} (ha : a.length = 4) (hc : c.length = 4) (hd : d.length = 4) (h1 : subB a c = true) : subB a (hullB c d) = true := sub_trans h1 (sub_hull1 hc hd)

/-- What a line that writes makes of a box, not yet cut. -/
def rawG (l : L) (b : List Rg) : Rg :=
  if l.op = 1 then ⟨l.a, l.a⟩
  else if l.op = 2 then gAt b l.a
  else if l.op = 3 then ⟨(gAt b l.a).lo + (gAt b l.b).lo, (gAt b l.a).hi + (gAt b l.b).hi⟩
  else if l.op = 4 then ⟨(gAt b l.a).lo - (gAt b l.b).hi, (gAt b l.a).hi - (gAt b l.b).lo⟩
  else if l.op = 5 then ⟨min (gAt b l.a).lo (gAt b l.b).lo, min (gAt b l.a).hi (gAt b l.b).hi⟩
  else ⟨max (gAt b l.a).lo (gAt b l.b).lo, max (gAt b l.a).hi (gAt b l.b).hi⟩
/-- The box after a line. -/
def afB (l : L) (b : List Rg) : List Rg := if wr l then b.set l.to.toNat (cutG (rawG l b)) else b
/-- Whether the next line can be reached, and the line behind those that are left out. -/
def goB (l : L) (b : List Rg) : Bool := l.op != 7 || decide ((gAt b l.b).lo ≤ (gAt b l.a).hi)
def skpB (l : L) (b : List Rg) : Bool := l.op == 7 && (l.a != l.b && decide ((gAt b l.a).lo < (gAt b l.b).hi))

theorem afB_len (l : L) (b : List Rg) : (afB l b).length = b.length := by unfold afB; split <;> simp
theorem gDset_ne {α : Type} {l : List α} {i k : Nat} {x d : α} (h : i ≠ k) : (l.set i x).getD k d = l.getD k d := by
  rw [List.getD_eq_getElem?_getD, List.getD_eq_getElem?_getD, List.getElem?_set_ne h]
theorem gDset_eq {α : Type} {l : List α} {i : Nat} {x d : α} (h : i < l.length) : (l.set i x).getD i d = x := by
  rw [List.getD_eq_getElem?_getD, List.getElem?_set_self h]; rfl
theorem rawG_le {l : L} {b : List Rg} (hl : isLn l = true) (hb : OkB b) (hw : wr l = true) : (rawG l b).lo ≤ (rawG l b).hi := by
  have h0 := isLn_op hl
  unfold wr at hw
  simp only [Bool.and_eq_true, bne_iff_ne, ne_eq] at hw
  have A : 2 ≤ l.op → (gAt b l.a).lo ≤ (gAt b l.a).hi := fun h => by
    have := isLn_a hl h
    exact (okG_iff.1 (hb.g this.1 this.2)).2.2
  have B : 3 ≤ l.op → (gAt b l.b).lo ≤ (gAt b l.b).hi := fun h => by
    have := isLn_b hl h
    exact (okG_iff.1 (hb.g this.1 this.2)).2.2
  unfold rawG
  split
  · exact Int.le_refl _
  · split
    · exact A (by omega)
    · have A := A (by omega)
      have B := B (by omega)
      split
      · simp only; omega
      · split
        · simp only; omega
        · split <;> (simp only; omega)
theorem cutv_mono {a b : Int} (h : a ≤ b) : cutv a ≤ cutv b := by unfold cutv; omega
theorem okG_cut {x : Rg} (h : x.lo ≤ x.hi) : okG (cutG x) = true := by
  rw [okG_iff]; exact ⟨cutv_bd _, cutv_bd _, cutv_mono h⟩
theorem okB_af {l : L} {b : List Rg} (hl : isLn l = true) (hb : OkB b) : OkB (afB l b) := by
  unfold afB
  split
  · rename_i hw
    refine ⟨by simpa using hb.l4, fun x hx => ?_⟩
    rcases List.mem_or_eq_of_mem_set hx with h | h
    · exact hb.ok x h
    · subst h; exact okG_cut (rawG_le hl hb hw)
  · exact hb
theorem go_or {l : L} {b : List Rg} (hl : isLn l = true) (hb : OkB b) : goB l b = true ∨ skpB l b = true := by
  unfold goB skpB
  by_cases h7 : l.op = 7
  · have ha := isLn_a hl (by omega)
    have hbb := isLn_b hl (by omega)
    have A := okG_iff.1 (hb.g ha.1 ha.2)
    have B := okG_iff.1 (hb.g hbb.1 hbb.2)
    by_cases hg : (gAt b l.b).lo ≤ (gAt b l.a).hi
    · left; simp [hg]
    · right
      have hne : l.a ≠ l.b := by intro e; rw [e] at hg; omega
      simp only [Bool.and_eq_true, beq_iff_eq, bne_iff_ne, ne_eq, decide_eq_true_eq]
      exact ⟨h7, hne, by omega⟩
  · left; simp [h7]

/-- A box goes to a line. -/
def recv (st : List (Option (List Rg))) (j : Nat) (b : List Rg) : List (Option (List Rg)) := st.set j (some (match st.getD j none with | none => b | some y => hullB y b))
/-- One line is gone through. -/
def spStep (ps : List L) (st : List (Option (List Rg))) (i : Nat) : List (Option (List Rg)) :=
  match st.getD i none, ps[i]? with
  | some x, some l =>
    let s1 := if goB l x then recv st (i + 1) (afB l x) else st
    if skpB l x then recv s1 (min (i + 1 + l.to.toNat) ps.length) x else s1
  | _, _ => st
def spAt (ps : List L) (b : List Rg) : Nat → List (Option (List Rg))
  | 0 => (List.replicate (ps.length + 1) none).set 0 (some b)
  | k + 1 => spStep ps (spAt ps b k) k
/-- The boxes of all lines, and of the end. -/
def spL (ps : List L) (b : List Rg) : List (Option (List Rg)) := spAt ps b ps.length
def endB (ps : List L) (b : List Rg) : List Rg := ((spL ps b).getD ps.length none).getD []

theorem recv_len (st : List (Option (List Rg))) (j : Nat) (b : List Rg) : (recv st j b).length = st.length := by simp [recv]
theorem spStep_len (ps : List L) (st : List (Option (List Rg))) (i : Nat) : (spStep ps st i).length = st.length := by
  unfold spStep
  split
  · dsimp only; split <;> split <;> simp [recv_len]
  · rfl
theorem spAt_len (ps : List L) (b : List Rg) : ∀ k, (spAt ps b k).length = ps.length + 1
  | 0 => by simp [spAt]
  | k + 1 => by rw [spAt, spStep_len, spAt_len ps b k]
theorem spStep_none {ps : List L} {st : List (Option (List Rg))} {i : Nat} (h : st.getD i none = none) : spStep ps st i = st := by unfold spStep; rw [h]
theorem spStep_some {ps : List L} {st : List (Option (List Rg))} {i : Nat} {x : List Rg} {l : L} (h : st.getD i none = some x) (hl : ps[i]? = some l) :
    spStep ps st i = (if skpB l x then recv (if goB l x then recv st (i + 1) (afB l x) else st) (min (i + 1 + l.to.toNat) ps.length) x else (if goB l x then recv st (i + 1) (afB l x) else st)) := by
  unfold spStep; rw [h, hl]
theorem recv_same {st : List (Option (List Rg))} {j : Nat} (hj : j < st.length) (b : List Rg) : (recv st j b).getD j none = some (match st.getD j none with | none => b | some y => hullB y b) := by
  unfold recv; exact gDset_eq hj
theorem recv_other {st : List (Option (List Rg))} {j k : Nat} (h : j ≠ k) (b : List Rg) : (recv st j b).getD k none = st.getD k none := by
  unfold recv; exact gDset_ne h

/-- One list of boxes is within another one. -/
def LeO (x y : Option (List Rg)) : Prop := ∀ a, x = some a → ∃ b, y = some b ∧ subB a b = true
def OkO (x : Option (List Rg)) : Prop := ∀ a, x = some a → OkB a
def OkSt (st : List (Option (List Rg))) : Prop := ∀ k, OkO (st.getD k none)
def LeSt (s t : List (Option (List Rg))) : Prop := ∀ k, LeO (s.getD k none) (t.getD k none)
theorem LeO.refl (x : Option (List Rg)) : LeO x x := fun a h => ⟨a, h, sub_refl a⟩
theorem LeO.trans {x y z : Option (List Rg)} (h1 : LeO x y) (h2 : LeO y z) : LeO x z := fun a h => by
  obtain ⟨b, hb, s1⟩ := h1 a h
  obtain ⟨c, hc, s2⟩ := h2 b hb
  exact ⟨c, hc, sub_trans s1 s2⟩
theorem okSt_recv {st : List (Option (List Rg))} {j : Nat} {b : List Rg} (h : OkSt st) (hb : OkB b) (hj : j < st.length) : OkSt (recv st j b) := by
  intro k
  by_cases e : j = k
  · subst e
    rw [recv_same hj]
    intro a ha
    cases hq : st.getD j none with
    | none => rw [hq] at ha; simp at ha; subst ha; exact hb
    | some y => rw [hq] at ha; simp at ha; subst ha; exact okB_hull (h j y hq) hb
  · rw [recv_other e]; exact h k
theorem le_recv {st : List (Option (List Rg))} {j : Nat} {b : List Rg} (h : OkSt st) (hb : OkB b) (hj : j < st.length) : LeSt st (recv st j b) := by
  intro k
  by_cases e : j = k
  · subst e
    rw [recv_same hj]
    intro a ha
    rw [ha]
    exact ⟨_, rfl, sub_hull1 (h j a ha).l4 hb.l4⟩
  · rw [recv_other e]; exact LeO.refl _
theorem recv_has {st : List (Option (List Rg))} {j : Nat} {b : List Rg} (h : OkSt st) (hb : OkB b) (hj : j < st.length) : ∃ c, (recv st j b).getD j none = some c ∧ subB b c = true := by
  rw [recv_same hj]
  cases hq : st.getD j none with
  | none => exact ⟨_, rfl, sub_refl b⟩
  | some y => exact ⟨_, rfl, sub_hull2 (h j y hq).l4 hb.l4⟩
theorem recv_mono {s t : List (Option (List Rg))} {j : Nat} {a b : List Rg} (hs : OkSt s) (ht : OkSt t) (h : LeSt s t) (ha : OkB a) (hb : OkB b) (hab : subB a b = true) (hj : j < s.length) (hj2 : j < t.length) : LeSt (recv s j a) (recv t j b) := by
  intro k
  by_cases e : j = k
  · subst e
    rw [recv_same hj, recv_same hj2]
    intro c hc
    cases hq : s.getD j none with
    | none =>
      rw [hq] at hc; simp at hc; subst hc
      cases hr : t.getD j none with
      | none => exact ⟨_, rfl, hab⟩
      | some z => exact ⟨_, rfl, sub_trans hab (sub_hull2 (ht j z hr).l4 hb.l4)⟩
    | some y =>
      rw [hq] at hc; simp at hc; subst hc
      obtain ⟨z, hz, hyz⟩ := h j y hq
      rw [hz]
      exact ⟨_, rfl, hull_mono (hs j y hq).l4 ha.l4 (ht j z hz).l4 hb.l4 hyz hab⟩
  · rw [recv_other e, recv_other e]; exact h k

theorem gAt_sub {a b : List Rg} (h : subB a b = true) {n : Int} (h0 : 0 ≤ n) (h3 : n ≤ 3) : (gAt b n).lo ≤ (gAt a n).lo ∧ (gAt a n).hi ≤ (gAt b n).hi := subG_iff.1 ((subB_iff.1 h) n.toNat (by omega))
theorem wr_iff {l : L} : wr l = true ↔ l.op ≠ 0 ∧ l.op ≠ 7 := by unfold wr; simp
theorem rawG_mono {l : L} {a b : List Rg} (hl : isLn l = true) (h : subB a b = true) (hw : wr l = true) : subG (rawG l a) (rawG l b) = true := by
  have h0 := isLn_op hl
  have hw := wr_iff.1 hw
  have A : 2 ≤ l.op → (gAt b l.a).lo ≤ (gAt a l.a).lo ∧ (gAt a l.a).hi ≤ (gAt b l.a).hi := fun e => gAt_sub h (isLn_a hl e).1 (isLn_a hl e).2
  have B : 3 ≤ l.op → (gAt b l.b).lo ≤ (gAt a l.b).lo ∧ (gAt a l.b).hi ≤ (gAt b l.b).hi := fun e => gAt_sub h (isLn_b hl e).1 (isLn_b hl e).2
  rw [subG_iff]
  unfold rawG
  split
  · exact ⟨Int.le_refl _, Int.le_refl _⟩
  · split
    · exact A (by omega)
    · have A := A (by omega)
      have B := B (by omega)
      split
      · simp only; omega
      · split
        · simp only; omega
        · split <;> (simp only; omega)
theorem cutG_mono {x y : Rg} (h : subG x y = true) : subG (cutG x) (cutG y) = true := by
  have := subG_iff.1 h; exact subG_iff.2 ⟨cutv_mono this.1, cutv_mono this.2⟩
theorem af_mono {l : L} {a b : List Rg} (hl : isLn l = true) (ha : a.length = 4) (hb : b.length = 4) (h : subB a b = true) : subB (afB l a) (afB l b) = true := by
  unfold afB
  split
  · rename_i hw
    have h0 := isLn_op hl
    have hw' := wr_iff.1 hw
    have ht := isLn_to hl (by omega) (by omega)
    rw [subB_iff]
    intro k hk
    by_cases e : l.to.toNat = k
    · subst e
      rw [gDset_eq (by omega), gDset_eq (by omega)]
      exact cutG_mono (rawG_mono hl h hw)
    · rw [gDset_ne e, gDset_ne e]; exact (subB_iff.1 h) k hk
  · exact h
theorem go_mono {l : L} {a b : List Rg} (hl : isLn l = true) (h : subB a b = true) (hg : goB l a = true) : goB l b = true := by
  unfold goB at *
  by_cases h7 : l.op = 7
  · have A := gAt_sub h (isLn_a hl (by omega)).1 (isLn_a hl (by omega)).2
    have B := gAt_sub h (isLn_b hl (by omega)).1 (isLn_b hl (by omega)).2
    simp [h7] at hg ⊢; omega
  · simp [h7]
theorem sk_mono {l : L} {a b : List Rg} (hl : isLn l = true) (h : subB a b = true) (hg : skpB l a = true) : skpB l b = true := by
  unfold skpB at *
  simp only [Bool.and_eq_true, beq_iff_eq, bne_iff_ne, ne_eq, decide_eq_true_eq] at *
  obtain ⟨h7, hne, hlt⟩ := hg
  have A := gAt_sub h (isLn_a hl (by omega)).1 (isLn_a hl (by omega)).2
  have B := gAt_sub h (isLn_b hl (by omega)).1 (isLn_b hl (by omega)).2
  exact ⟨h7, hne, by omega⟩

theorem okSt_step {ps : List L} {st : List (Option (List Rg))} {i : Nat} (hv : ∀ l ∈ ps, isLn l = true) (hl : st.length = ps.length + 1) (h : OkSt st) : OkSt (spStep ps st i) ∧ LeSt st (spStep ps st i) := by
  cases hx : st.getD i none with
  | none => rw [spStep_none hx]; exact ⟨h, fun k => LeO.refl _⟩
  | some x =>
    cases hp : ps[i]? with
    | none => unfold spStep; rw [hx, hp]; exact ⟨h, fun k => LeO.refl _⟩
    | some l =>
      have hln := hv l (mem_of_get hp)
      have hi := (List.getElem?_eq_some_iff.1 hp).1
      have hxo := h i x hx
      rw [spStep_some hx hp]
      have h1 : OkSt (if goB l x then recv st (i + 1) (afB l x) else st) ∧ LeSt st (if goB l x then recv st (i + 1) (afB l x) else st) := by
        split
        · exact ⟨okSt_recv h (okB_af hln hxo) (by omega), le_recv h (okB_af hln hxo) (by omega)⟩
        · exact ⟨h, fun k => LeO.refl _⟩
      have hlen : (if goB l x then recv st (i + 1) (afB l x) else st).length = ps.length + 1 := by split <;> simp [recv_len, hl]
      split
      · exact ⟨okSt_recv h1.1 hxo (by omega), fun k => (h1.2 k).trans (le_recv h1.1 hxo (by omega) k)⟩
      · exact h1
theorem okSt_at {ps : List L} {b : List Rg} (hv : ∀ l ∈ ps, isLn l = true) (hb : OkB b) : ∀ k, OkSt (spAt ps b k)
  | 0 => by
    intro k a ha
    rw [spAt] at ha
    by_cases e : 0 = k
    · subst e; rw [gDset_eq (by simp)] at ha; simp at ha; subst ha; exact hb
    · rw [gDset_ne e, List.getD_eq_getElem?_getD, List.getElem?_replicate] at ha
      split at ha <;> simp at ha
  | k + 1 => (okSt_step hv (spAt_len ps b k) (okSt_at hv hb k)).1
theorem le_at {ps : List L} {b : List Rg} (hv : ∀ l ∈ ps, isLn l = true) (hb : OkB b) (k : Nat) : ∀ m, LeSt (spAt ps b k) (spAt ps b (k + m))
  | 0 => fun j => LeO.refl _
  | m + 1 => fun j => (le_at hv hb k m j).trans ((okSt_step hv (spAt_len ps b (k + m)) (okSt_at hv hb (k + m))).2 j)
/-- What is gone through stays. -/
theorem spStep_stays {ps : List L} {st : List (Option (List Rg))} {i j : Nat} (h : j ≤ i) (hp : i < ps.length) : (spStep ps st i).getD j none = st.getD j none := by
  unfold spStep
  split
  · dsimp only
    split <;> split <;> first | rw [recv_other (by omega), recv_other (by omega)] | rw [recv_other (by omega)] | rfl
  · rfl
theorem spAt_stays {ps : List L} {b : List Rg} {j k : Nat} (h : j ≤ k) : ∀ m, k + m ≤ ps.length → (spAt ps b (k + m)).getD j none = (spAt ps b k).getD j none
  | 0, _ => rfl
  | m + 1, hm => by rw [← Nat.add_assoc, spAt, spStep_stays (by omega) (by omega)]; exact spAt_stays h m (by omega)
theorem spAt_fin {ps : List L} {b : List Rg} {k : Nat} (h : k ≤ ps.length) : (spL ps b).getD k none = (spAt ps b k).getD k none := by
  have := spAt_stays (ps := ps) (b := b) (Nat.le_refl k) (ps.length - k) (by omega)
  rwa [show k + (ps.length - k) = ps.length by omega] at this

theorem mono_step {ps : List L} {s t : List (Option (List Rg))} {i : Nat} (hv : ∀ l ∈ ps, isLn l = true) (hl : s.length = ps.length + 1) (hl2 : t.length = ps.length + 1) (hs : OkSt s) (ht : OkSt t) (h : LeSt s t) : LeSt (spStep ps s i) (spStep ps t i) := by
  cases hx : s.getD i none with
  | none =>
    rw [spStep_none hx]
    exact fun k => (h k).trans ((okSt_step hv hl2 ht).2 k)
  | some x =>
    obtain ⟨y, hy, hxy⟩ := h i x hx
    cases hp : ps[i]? with
    | none => unfold spStep; rw [hx, hy, hp]; exact h
    | some l =>
      have hln := hv l (mem_of_get hp)
      have hi := (List.getElem?_eq_some_iff.1 hp).1
      have hxo := hs i x hx
      have hyo := ht i y hy
      rw [spStep_some hx hp, spStep_some hy hp]
      have o1 : OkSt (if goB l x then recv s (i + 1) (afB l x) else s) := by
        split
        · exact okSt_recv hs (okB_af hln hxo) (by omega)
        · exact hs
      have o2 : OkSt (if goB l y then recv t (i + 1) (afB l y) else t) := by
        split
        · exact okSt_recv ht (okB_af hln hyo) (by omega)
        · exact ht
      have l1 : (if goB l x then recv s (i + 1) (afB l x) else s).length = ps.length + 1 := by split <;> simp [recv_len, hl]
      have l2 : (if goB l y then recv t (i + 1) (afB l y) else t).length = ps.length + 1 := by split <;> simp [recv_len, hl2]
      have h1 : LeSt (if goB l x then recv s (i + 1) (afB l x) else s) (if goB l y then recv t (i + 1) (afB l y) else t) := by
        by_cases g1 : goB l x = true
        · rw [if_pos g1, if_pos (go_mono hln hxy g1)]
          exact recv_mono hs ht h (okB_af hln hxo) (okB_af hln hyo) (af_mono hln hxo.l4 hyo.l4 hxy) (by omega) (by omega)
        · rw [if_neg g1]
          split
          · exact fun k => (h k).trans (le_recv ht (okB_af hln hyo) (by omega) k)
          · exact h
      by_cases g1 : skpB l x = true
      · rw [if_pos g1, if_pos (sk_mono hln hxy g1)]
        exact recv_mono o1 o2 h1 hxo hyo hxy (by omega) (by omega)
      · rw [if_neg g1]
        by_cases g2 : skpB l y = true
        · rw [if_pos g2]; exact fun k => (h1 k).trans (le_recv o2 hyo (by omega) k)
        · rw [if_neg g2]; exact h1
theorem mono_at {ps : List L} {a b : List Rg} (hv : ∀ l ∈ ps, isLn l = true) (ha : OkB a) (hb : OkB b) (h : subB a b = true) : ∀ k, LeSt (spAt ps a k) (spAt ps b k)
  | 0 => by
    intro k
    rw [spAt, spAt]
    by_cases e : 0 = k
    · subst e; rw [gDset_eq (by simp), gDset_eq (by simp)]; intro c hc; simp at hc; subst hc; exact ⟨_, rfl, h⟩
    · rw [gDset_ne e, gDset_ne e]; exact LeO.refl _
  | k + 1 => mono_step hv (spAt_len ps a k) (spAt_len ps b k) (okSt_at hv ha k) (okSt_at hv hb k) (mono_at hv ha hb h k)

/-- Some line from k on, or the end, is reached. -/
theorem some_at {ps : List L} {b : List Rg} (hv : ∀ l ∈ ps, isLn l = true) (hb : OkB b) : ∀ k, k ≤ ps.length → ∃ j x, k ≤ j ∧ j ≤ ps.length ∧ (spAt ps b k).getD j none = some x
  | 0, _ => ⟨0, b, Nat.le_refl _, Nat.zero_le _, by rw [spAt, gDset_eq (by simp)]⟩
  | k + 1, hk => by
    obtain ⟨j, x, h1, h2, h3⟩ := some_at hv hb k (by omega)
    have ho := okSt_at hv hb k
    by_cases e : k = j
    · subst e
      obtain ⟨l, hl⟩ := get_of_lt (show k < ps.length by omega)
      have hln := hv l (mem_of_get hl)
      have hxo := ho k x h3
      have hlen := spAt_len ps b k
      have o1 : OkSt (if goB l x then recv (spAt ps b k) (k + 1) (afB l x) else spAt ps b k) := by
        split
        · exact okSt_recv ho (okB_af hln hxo) (by omega)
        · exact ho
      have l1 : (if goB l x then recv (spAt ps b k) (k + 1) (afB l x) else spAt ps b k).length = ps.length + 1 := by split <;> simp [recv_len, hlen]
      rw [spAt, spStep_some h3 hl]
      by_cases g2 : skpB l x = true
      · rw [if_pos g2]
        obtain ⟨c, hc, _⟩ := recv_has (j := min (k + 1 + l.to.toNat) ps.length) o1 hxo (by omega)
        exact ⟨_, c, by omega, by omega, hc⟩
      · have g1 := (go_or hln hxo).resolve_right g2
        rw [if_neg g2, if_pos g1]
        obtain ⟨c, hc, _⟩ := recv_has (j := k + 1) ho (okB_af hln hxo) (by omega)
        exact ⟨_, c, by omega, by omega, hc⟩
    · obtain ⟨c, hc, _⟩ := (okSt_step (i := k) hv (spAt_len ps b k) ho).2 j x h3
      exact ⟨j, c, by omega, h2, hc⟩
theorem end_some {ps : List L} {b : List Rg} (hv : ∀ l ∈ ps, isLn l = true) (hb : OkB b) : (spL ps b).getD ps.length none = some (endB ps b) := by
  obtain ⟨j, x, h1, h2, h3⟩ := some_at hv hb ps.length (Nat.le_refl _)
  obtain rfl : j = ps.length := by omega
  unfold endB spL; rw [h3]; rfl
theorem end_ok {ps : List L} {b : List Rg} (hv : ∀ l ∈ ps, isLn l = true) (hb : OkB b) : OkB (endB ps b) := okSt_at hv hb ps.length ps.length _ (end_some hv hb)
theorem end_mono {ps : List L} {a b : List Rg} (hv : ∀ l ∈ ps, isLn l = true) (ha : OkB a) (hb : OkB b) (h : subB a b = true) : subB (endB ps a) (endB ps b) = true := by
  obtain ⟨c, hc, hs⟩ := mono_at hv ha hb h ps.length ps.length _ (end_some hv ha)
  have : (spL ps b).getD ps.length none = some c := hc
  rw [end_some hv hb] at this
  injection this with e
  rw [e]; exact hs

/-- What a state is after a line is in the box after it. -/
theorem rg_in {b : List Rg} {s : List Int} (h : memB b s = true) {n : Int} (h0 : 0 ≤ n) (h3 : n ≤ 3) : (gAt b n).lo ≤ rg s n ∧ rg s n ≤ (gAt b n).hi := inG_iff.1 (memB_iff.1 h n.toNat (by omega))
theorem val_in {l : L} {b : List Rg} {s : List Int} (hl : isLn l = true) (hw : wr l = true) (h : memB b s = true) : inG (rawG l b) (valOf l s) = true := by
  have h0 := isLn_op hl
  have hw := wr_iff.1 hw
  have A : 2 ≤ l.op → _ := fun e => rg_in h (isLn_a hl e).1 (isLn_a hl e).2
  have B : 3 ≤ l.op → _ := fun e => rg_in h (isLn_b hl e).1 (isLn_b hl e).2
  rw [inG_iff]
  unfold rawG valOf
  split
  · exact ⟨Int.le_refl _, Int.le_refl _⟩
  · split
    · exact A (by omega)
    · have A := A (by omega)
      have B := B (by omega)
      split
      · simp only; omega
      · split
        · simp only; omega
        · split <;> (simp only; omega)
theorem mem_af {l : L} {b : List Rg} {s : List Int} (hl : isLn l = true) (hb : b.length = 4) (hs : s.length = 4) (h : memB b s = true) : memB (afB l b) (stp l s none) = true := by
  unfold afB stp
  by_cases hw : wr l = true
  · rw [if_pos hw, if_pos hw]
    have h0 := isLn_op hl
    have hw' := wr_iff.1 hw
    have ht := isLn_to hl (by omega) (by omega)
    rw [memB_iff]
    intro k hk
    by_cases e : l.to.toNat = k
    · subst e
      rw [gDset_eq (by omega), gDset_eq (by omega)]
      have := inG_iff.1 (val_in hl hw h)
      exact inG_iff.2 ⟨cutv_mono this.1, cutv_mono this.2⟩
    · rw [gDset_ne e, gDset_ne e]; exact memB_iff.1 h k hk
  · rw [if_neg hw, if_neg hw]; exact h
theorem mem_go {l : L} {b : List Rg} {s : List Int} (hl : isLn l = true) (h : memB b s = true) (hs : skips l s = false) : goB l b = true := by
  unfold goB
  unfold skips at hs
  by_cases h7 : l.op = 7
  · have A := rg_in h (isLn_a hl (by omega)).1 (isLn_a hl (by omega)).2
    have B := rg_in h (isLn_b hl (by omega)).1 (isLn_b hl (by omega)).2
    simp [h7] at hs ⊢; omega
  · simp [h7]
theorem mem_sk {l : L} {b : List Rg} {s : List Int} (hl : isLn l = true) (h : memB b s = true) (hs : skips l s = true) : skpB l b = true := by
  unfold skpB
  unfold skips at hs
  simp only [Bool.and_eq_true, beq_iff_eq, decide_eq_true_eq] at hs
  obtain ⟨h7, hlt⟩ := hs
  have A := rg_in h (isLn_a hl (by omega)).1 (isLn_a hl (by omega)).2
  have B := rg_in h (isLn_b hl (by omega)).1 (isLn_b hl (by omega)).2
  have hne : l.a ≠ l.b := by intro e; rw [e] at hlt; omega
  simp only [Bool.and_eq_true, beq_iff_eq, bne_iff_ne, ne_eq, decide_eq_true_eq]
  exact ⟨h7, hne, by omega⟩
theorem skips_nw {l : L} {s : List Int} (h : skips l s = true) : stp l s none = s := by
  unfold skips at h
  simp only [Bool.and_eq_true, beq_iff_eq] at h
  unfold stp wr
  simp [h.1]

/-- Each line that is done is reached, with a box that has the state before it, and the state at the end is in the box at the end. -/
theorem tr_in {ps : List L} {b : List Rg} (hv : ∀ l ∈ ps, isLn l = true) (hb : OkB b) :
    ∀ (m i : Nat) (s : List Int) (x : List Rg), ps.length - i = m → okS s → (spAt ps b (min i ps.length)).getD (min i ps.length) none = some x → memB x s = true →
      (∀ q ∈ (tr ps (fun _ => none) i s).1, ∃ y, (spL ps b).getD q.1 none = some y ∧ memB y q.2 = true ∧ q.1 < ps.length) ∧ memB (endB ps b) (tr ps (fun _ => none) i s).2 = true := by
  intro m
  induction m using Nat.strongRecOn with
  | ind m ih =>
    intro i s x hm hs hx hmem
    by_cases hi : i < ps.length
    · obtain ⟨l, hl⟩ := get_of_lt hi
      have hln := hv l (mem_of_get hl)
      rw [show min i ps.length = i by omega] at hx
      have ho := okSt_at hv hb i
      have hxo := ho i x hx
      have hlen := spAt_len ps b i
      have o1 : OkSt (if goB l x then recv (spAt ps b i) (i + 1) (afB l x) else spAt ps b i) := by
        split
        · exact okSt_recv ho (okB_af hln hxo) (by omega)
        · exact ho
      have l1 : (if goB l x then recv (spAt ps b i) (i + 1) (afB l x) else spAt ps b i).length = ps.length + 1 := by split <;> simp [recv_len, hlen]
      have hgt := nxt_gt l s i
      have hnext : ∃ y, (spAt ps b (i + 1)).getD (min (nxt l s i) ps.length) none = some y ∧ memB y (stp l s none) = true := by
        rw [spAt, spStep_some hx hl]
        unfold nxt
        cases hk : skips l s
        · have hg := mem_go hln hmem hk
          have hma := mem_af hln hxo.l4 hs.1 hmem
          rw [if_neg (show ¬ (false = true) by simp), show min (i + 1) ps.length = i + 1 by omega]
          rw [if_pos hg] at o1 l1 ⊢
          obtain ⟨c, hc, hsub⟩ := recv_has (j := i + 1) ho (okB_af hln hxo) (by omega)
          by_cases g2 : skpB l x = true
          · rw [if_pos g2]
            obtain ⟨d, hd, hsub2⟩ := le_recv (j := min (i + 1 + l.to.toNat) ps.length) o1 hxo (by omega) (i + 1) c hc
            exact ⟨d, hd, mem_sub hsub2 (mem_sub hsub hma)⟩
          · rw [if_neg g2]; exact ⟨c, hc, mem_sub hsub hma⟩
        · have hg := mem_sk hln hmem hk
          rw [if_pos (show true = true from rfl), if_pos hg, skips_nw hk]
          obtain ⟨c, hc, hsub⟩ := recv_has (j := min (i + 1 + l.to.toNat) ps.length) o1 hxo (by omega)
          exact ⟨c, hc, mem_sub hsub hmem⟩
      obtain ⟨y, hy, hym⟩ := hnext
      have hfin : ∃ z, (spAt ps b (min (nxt l s i) ps.length)).getD (min (nxt l s i) ps.length) none = some z ∧ memB z (stp l s none) = true := by
        obtain ⟨z, hz, hsub⟩ := le_at hv hb (i + 1) (min (nxt l s i) ps.length - (i + 1)) _ y hy
        rw [show i + 1 + (min (nxt l s i) ps.length - (i + 1)) = min (nxt l s i) ps.length by omega] at hz
        exact ⟨z, hz, mem_sub hsub hym⟩
      obtain ⟨z, hz, hzm⟩ := hfin
      have hr := ih (ps.length - nxt l s i) (by omega) (nxt l s i) (stp l s none) z rfl (okS_stp hs (by simp)) hz hzm
      rw [tr_lt hl]
      refine ⟨fun q hq => ?_, hr.2⟩
      rcases List.mem_cons.1 hq with rfl | hq
      · exact ⟨x, by rw [spAt_fin (by omega)]; exact hx, hmem, hi⟩
      · exact hr.1 q hq
    · rw [tr_ge (by omega)]
      rw [show min i ps.length = ps.length by omega] at hx
      refine ⟨fun q hq => by simp at hq, ?_⟩
      have : (spL ps b).getD ps.length none = some x := hx
      rw [end_some hv hb] at this
      injection this with e
      show memB (endB ps b) s = true
      rw [e]; exact hmem

end Tinker

/- Plain mathematics of spans, second part: points, halves, what is in two boxes. -/
set_option linter.unusedVariables false
set_option linter.unusedSimpArgs false
namespace Tinker

theorem ptB_len (s : List Int) : (ptB s).length = s.length := by simp [ptB]
theorem ptB_at {s : List Int} {k : Nat} (h : k < s.length) : (ptB s).getD k rg0 = ⟨s.getD k 0, s.getD k 0⟩ := by
  obtain ⟨x, hx⟩ := get_of_lt h
  rw [getD_of_get hx, List.getD_eq_getElem?_getD]
  unfold ptB
  rw [List.getElem?_map, hx]; rfl
theorem ptB_g {s : List Int} (h4 : s.length = 4) {n : Int} (h0 : 0 ≤ n) (h3 : n ≤ 3) : gAt (ptB s) n = ⟨rg s n, rg s n⟩ := ptB_at (by omega)
theorem okB_pt {s : List Int} (h : okS s) : OkB (ptB s) := by
  refine ⟨by rw [ptB_len]; exact h.1, fun x hx => ?_⟩
  unfold ptB at hx
  obtain ⟨n, hn, rfl⟩ := List.mem_map.1 hx
  have := h.2 n hn
  rw [okG_iff]; simp only; omega
theorem mem_pt {s : List Int} (h : s.length = 4) : memB (ptB s) s = true := by
  rw [memB_iff]; intro k hk; rw [ptB_at (by omega), inG_iff]; simp
theorem raw_pt {l : L} {s : List Int} (hl : isLn l = true) (hw : wr l = true) (h4 : s.length = 4) : rawG l (ptB s) = ⟨valOf l s, valOf l s⟩ := by
  have h0 := isLn_op hl
  have hw := wr_iff.1 hw
  have A : 2 ≤ l.op → gAt (ptB s) l.a = ⟨rg s l.a, rg s l.a⟩ := fun e => ptB_g h4 (isLn_a hl e).1 (isLn_a hl e).2
  have B : 3 ≤ l.op → gAt (ptB s) l.b = ⟨rg s l.b, rg s l.b⟩ := fun e => ptB_g h4 (isLn_b hl e).1 (isLn_b hl e).2
  unfold rawG valOf
  split
  · rfl
  · split
    · exact A (by omega)
    · rw [A (by omega), B (by omega)]
      split
      · rfl
      · split
        · rfl
        · split <;> rfl
theorem ptB_set {s : List Int} (i : Nat) (n : Int) : ptB (s.set i n) = (ptB s).set i ⟨n, n⟩ := by unfold ptB; rw [List.map_set]
theorem af_pt {l : L} {s : List Int} (hl : isLn l = true) (h4 : s.length = 4) : afB l (ptB s) = ptB (stp l s none) := by
  unfold afB stp
  by_cases hw : wr l = true
  · rw [if_pos hw, if_pos hw, ptB_set, raw_pt hl hw h4]; rfl
  · rw [if_neg hw, if_neg hw]
theorem go_pt {l : L} {s : List Int} (hl : isLn l = true) (h4 : s.length = 4) : goB l (ptB s) = !skips l s := by
  unfold goB skips
  by_cases h7 : l.op = 7
  · rw [ptB_g h4 (isLn_a hl (by omega)).1 (isLn_a hl (by omega)).2, ptB_g h4 (isLn_b hl (by omega)).1 (isLn_b hl (by omega)).2]
    rw [h7, Bool.eq_iff_iff]; simp
  · have e1 : (l.op == 7) = false := by simpa using h7
    have e2 : (l.op != 7) = true := by simpa using h7
    rw [e1, e2]; rfl
theorem sk_pt {l : L} {s : List Int} (hl : isLn l = true) (h4 : s.length = 4) : skpB l (ptB s) = skips l s := by
  unfold skpB skips
  by_cases h7 : l.op = 7
  · rw [ptB_g h4 (isLn_a hl (by omega)).1 (isLn_a hl (by omega)).2, ptB_g h4 (isLn_b hl (by omega)).1 (isLn_b hl (by omega)).2]
    rw [Bool.eq_iff_iff]
    simp only [Bool.and_eq_true, beq_iff_eq, bne_iff_ne, ne_eq, decide_eq_true_eq]
    exact ⟨fun ⟨a, b, c⟩ => ⟨a, c⟩, fun ⟨a, c⟩ => ⟨a, fun e => by rw [e] at c; omega, c⟩⟩
  · have e1 : (l.op == 7) = false := by simpa using h7
    rw [e1]; rfl
/-- Spans from one state follow its run. -/
theorem pt_at {ps : List L} {s0 : List Int} (hv : ∀ l ∈ ps, isLn l = true) (h0 : okS s0) : ∀ k, k ≤ ps.length →
    ∃ i s, k ≤ i ∧ i ≤ ps.length ∧ okS s ∧ (∀ j, k ≤ j → (spAt ps (ptB s0) k).getD j none = if j = i then some (ptB s) else none) ∧ (tr ps (fun _ => none) i s).2 = (tr ps (fun _ => none) 0 s0).2
  | 0, _ => by
    refine ⟨0, s0, Nat.le_refl _, Nat.zero_le _, h0, fun j _ => ?_, rfl⟩
    rw [spAt]
    by_cases e : 0 = j
    · subst e; rw [gDset_eq (by simp), if_pos rfl]
    · rw [gDset_ne e, if_neg (by omega), List.getD_eq_getElem?_getD, List.getElem?_replicate]
      split <;> rfl
  | k + 1, hk => by
    obtain ⟨i, s, h1, h2, hs, hst, htr⟩ := pt_at hv h0 k (by omega)
    have hlen := spAt_len ps (ptB s0) k
    by_cases e : i = k
    · subst e
      obtain ⟨l, hl⟩ := get_of_lt (show i < ps.length by omega)
      have hln := hv l (mem_of_get hl)
      have hx := hst i (Nat.le_refl _)
      rw [if_pos rfl] at hx
      rw [tr_lt hl] at htr
      have hok := okS_stp (l := l) (o := none) hs (by simp)
      refine ⟨min (nxt l s i) ps.length, stp l s none, by have := nxt_gt l s i; omega, by omega, hok, fun j hj => ?_, ?_⟩
      · rw [spAt, spStep_some hx hl, go_pt hln hs.1, sk_pt hln hs.1, af_pt hln hs.1]
        unfold nxt
        cases hk : skips l s
        · rw [if_neg (show ¬ (false = true) by simp), if_pos (show (!false) = true from rfl), if_neg (show ¬ (false = true) by simp), show min (i + 1) ps.length = i + 1 by omega]
          by_cases e : i + 1 = j
          · subst e
            rw [recv_same (by omega), hst (i + 1) (by omega), if_neg (by omega), if_pos rfl]
          · rw [recv_other e, hst j (by omega), if_neg (by omega), if_neg (by omega)]
        · rw [if_pos (show true = true from rfl), if_neg (show ¬ ((!true) = true) by simp), if_pos (show true = true from rfl), skips_nw hk]
          by_cases e : min (i + 1 + l.to.toNat) ps.length = j
          · subst e
            rw [recv_same (by omega), hst _ (by omega), if_neg (by omega), if_pos rfl]
          · rw [recv_other e, hst j (by omega), if_neg (by omega), if_neg (by omega)]
      · rw [← htr]
        by_cases hn : nxt l s i ≤ ps.length
        · rw [show min (nxt l s i) ps.length = nxt l s i by omega]
        · rw [show min (nxt l s i) ps.length = ps.length by omega, tr_ge (Nat.le_refl _), tr_ge (i := nxt l s i) (by omega)]
    · refine ⟨i, s, by omega, h2, hs, fun j hj => ?_, htr⟩
      rw [spAt, spStep_none (by rw [hst k (Nat.le_refl _), if_neg (by omega)])]
      exact hst j (by omega)
theorem end_pt {ps : List L} {s0 : List Int} (hv : ∀ l ∈ ps, isLn l = true) (h0 : okS s0) : endB ps (ptB s0) = ptB (tr ps (fun _ => none) 0 s0).2 := by
  obtain ⟨i, s, h1, h2, hs, hst, htr⟩ := pt_at hv h0 ps.length (Nat.le_refl _)
  obtain rfl : i = ps.length := by omega
  have := hst ps.length (Nat.le_refl _)
  rw [if_pos rfl] at this
  rw [tr_ge (Nat.le_refl _)] at htr
  unfold endB spL
  rw [this, ← htr]; rfl

/-- From each state in a box a run ends in the box at the end. -/
theorem in_end {ps : List L} {b : List Rg} {s : List Int} (hv : ∀ l ∈ ps, isLn l = true) (hb : OkB b) (hs : okS s) (h : memB b s = true) :
    (∀ q ∈ (tr ps (fun _ => none) 0 s).1, ∃ y, (spL ps b).getD q.1 none = some y ∧ memB y q.2 = true ∧ q.1 < ps.length) ∧ memB (endB ps b) (tr ps (fun _ => none) 0 s).2 = true := by
  refine tr_in hv hb _ 0 s b rfl hs ?_ h
  rw [show min 0 ps.length = 0 by omega, spAt, gDset_eq (by simp)]

/-- The lower and the upper half. -/
def loH (b : List Rg) (r : Int) : List Rg := b.set r.toNat ⟨(gAt b r).lo, ((gAt b r).lo + (gAt b r).hi) / 2⟩
def hiH (b : List Rg) (r : Int) : List Rg := b.set r.toNat ⟨((gAt b r).lo + (gAt b r).hi) / 2 + 1, (gAt b r).hi⟩
theorem halves_ok {b : List Rg} {r : Int} (hb : OkB b) (h0 : 0 ≤ r) (h3 : r ≤ 3) (h : (gAt b r).lo ≠ (gAt b r).hi) : OkB (loH b r) ∧ OkB (hiH b r) := by
  have hg := okG_iff.1 (hb.g h0 h3)
  constructor
  · refine ⟨by unfold loH; simpa using hb.l4, fun x hx => ?_⟩
    rcases List.mem_or_eq_of_mem_set hx with h | h
    · exact hb.ok x h
    · subst h; rw [okG_iff]; simp only; omega
  · refine ⟨by unfold hiH; simpa using hb.l4, fun x hx => ?_⟩
    rcases List.mem_or_eq_of_mem_set hx with h | h
    · exact hb.ok x h
    · subst h; rw [okG_iff]; simp only; omega
theorem mem_set {b : List Rg} {s : List Int} {i : Nat} {x : Rg} (h4 : b.length = 4) (hi : i < 4) : memB (b.set i x) s = true ↔ inG x (s.getD i 0) = true ∧ ∀ k, k < 4 → k ≠ i → inG (b.getD k rg0) (s.getD k 0) = true := by
  rw [memB_iff]
  constructor
  · intro h
    refine ⟨by have := h i hi; rwa [gDset_eq (by omega)] at this, fun k hk hne => ?_⟩
    have := h k hk
    rwa [gDset_ne (by omega)] at this
  · rintro ⟨h1, h2⟩ k hk
    by_cases e : i = k
    · subst e; rw [gDset_eq (by omega)]; exact h1
    · rw [gDset_ne e]; exact h2 k hk (by omega)
theorem mem_split {b : List Rg} {s : List Int} {i : Nat} (hi : i < 4) : memB b s = true ↔ inG (b.getD i rg0) (s.getD i 0) = true ∧ ∀ k, k < 4 → k ≠ i → inG (b.getD k rg0) (s.getD k 0) = true := by
  rw [memB_iff]
  constructor
  · intro h; exact ⟨h i hi, fun k hk _ => h k hk⟩
  · rintro ⟨h1, h2⟩ k hk
    by_cases e : i = k
    · subst e; exact h1
    · exact h2 k hk (by omega)
theorem halves_mem {b : List Rg} {r : Int} {s : List Int} (hb : OkB b) (h0 : 0 ≤ r) (h3 : r ≤ 3) :
    memB b s = (memB (loH b r) s || memB (hiH b r) s) ∧ (memB (loH b r) s && memB (hiH b r) s) = false := by
  have hg := okG_iff.1 (hb.g h0 h3)
  have hr : r.toNat < 4 := by omega
  have e1 : memB (loH b r) s = true ↔ _ := mem_set (x := ⟨(gAt b r).lo, ((gAt b r).lo + (gAt b r).hi) / 2⟩) (s := s) hb.l4 hr
  have e2 : memB (hiH b r) s = true ↔ _ := mem_set (x := ⟨((gAt b r).lo + (gAt b r).hi) / 2 + 1, (gAt b r).hi⟩) (s := s) hb.l4 hr
  have e3 : memB b s = true ↔ _ := mem_split (b := b) (s := s) hr
  have eg : b.getD r.toNat rg0 = gAt b r := rfl
  rw [eg] at e3
  rw [inG_iff] at e1 e2 e3
  simp only at e1 e2
  constructor
  · rw [Bool.eq_iff_iff, Bool.or_eq_true, e1, e2, e3]
    constructor
    · rintro ⟨⟨a, b'⟩, c⟩
      by_cases hm : s.getD r.toNat 0 ≤ ((gAt b r).lo + (gAt b r).hi) / 2
      · exact .inl ⟨⟨a, hm⟩, c⟩
      · exact .inr ⟨⟨by omega, b'⟩, c⟩
    · rintro (⟨⟨a, b'⟩, c⟩ | ⟨⟨a, b'⟩, c⟩)
      · exact ⟨⟨a, by omega⟩, c⟩
      · exact ⟨⟨by omega, b'⟩, c⟩
  · cases h1 : memB (loH b r) s
    · rfl
    · cases h2 : memB (hiH b r) s
      · rfl
      · have a1 := (e1.1 h1).1
        have a2 := (e2.1 h2).1
        omega
theorem halves_sub {b : List Rg} {r : Int} (hb : OkB b) (h0 : 0 ≤ r) (h3 : r ≤ 3) (h : (gAt b r).lo ≠ (gAt b r).hi) : subB (loH b r) b = true ∧ subB (hiH b r) b = true := by
  have hg := okG_iff.1 (hb.g h0 h3)
  have hr : r.toNat < b.length := by rw [hb.l4]; omega
  constructor
  · rw [subB_iff]; intro k hk
    unfold loH
    by_cases e : r.toNat = k
    · subst e
      rw [gDset_eq hr, subG_iff]
      show (gAt b r).lo ≤ _ ∧ _ ≤ (gAt b r).hi
      simp only; omega
    · rw [gDset_ne e, subG_iff]; omega
  · rw [subB_iff]; intro k hk
    unfold hiH
    by_cases e : r.toNat = k
    · subst e
      rw [gDset_eq hr, subG_iff]
      show (gAt b r).lo ≤ _ ∧ _ ≤ (gAt b r).hi
      simp only; omega
    · rw [gDset_ne e, subG_iff]; omega

/-- Whether there is no state in both. -/
def apTo (a b : List Rg) (k : Nat) : Bool := (List.range k).any fun i => decide (((meetB a b).getD i rg0).hi < ((meetB a b).getD i rg0).lo)
def apB (a b : List Rg) : Bool := apTo a b 4
theorem apTo_not {a b : List Rg} {k m : Nat} (h : apTo a b m = false) (hk : k < m) : ¬ ((meetB a b).getD k rg0).hi < ((meetB a b).getD k rg0).lo := by
  unfold apTo at h
  rw [List.any_eq_false] at h
  simpa using h k (List.mem_range.2 hk)
theorem apTo_yes {a b : List Rg} {k m : Nat} (hk : k < m) (h : ((meetB a b).getD k rg0).hi < ((meetB a b).getD k rg0).lo) : apTo a b m = true := by
  unfold apTo
  rw [List.any_eq_true]
  exact ⟨k, List.mem_range.2 hk, by simpa using h⟩
theorem apTo_succ {a b : List Rg} {k : Nat} : apTo a b (k + 1) = (apTo a b k || decide (((meetB a b).getD k rg0).hi < ((meetB a b).getD k rg0).lo)) := by
  unfold apTo; rw [List.range_succ, List.any_append]; simp
theorem meet_mem {a b : List Rg} {s : List Int} (ha : a.length = 4) (hb : b.length = 4) : memB (meetB a b) s = (memB a s && memB b s) := by
  rw [Bool.eq_iff_iff, Bool.and_eq_true, memB_iff, memB_iff, memB_iff]
  constructor
  · intro h
    constructor
    · intro k hk; have := h k hk; rw [meetB_at ha hb hk, inG_iff] at this; unfold meetG at this; simp only at this; rw [inG_iff]; omega
    · intro k hk; have := h k hk; rw [meetB_at ha hb hk, inG_iff] at this; unfold meetG at this; simp only at this; rw [inG_iff]; omega
  · rintro ⟨h1, h2⟩ k hk
    have h1 := inG_iff.1 (h1 k hk)
    have h2 := inG_iff.1 (h2 k hk)
    rw [meetB_at ha hb hk, inG_iff]; unfold meetG; simp only; omega
theorem meet_ok {a b : List Rg} (ha : OkB a) (hb : OkB b) (h : apB a b = false) : OkB (meetB a b) := by
  rw [okB_iff (meetB_l ha.l4 hb.l4)]
  intro k hk
  have h1 := okG_iff.1 (ha.at_ hk)
  have h2 := okG_iff.1 (hb.at_ hk)
  have h3 := apTo_not h hk
  rw [meetB_at ha.l4 hb.l4 hk] at h3 ⊢
  rw [okG_iff]; unfold meetG at *; simp only at *; omega
theorem meet_none {a b : List Rg} {s : List Int} (ha : a.length = 4) (hb : b.length = 4) (h : apB a b = true) : (memB a s && memB b s) = false := by
  rw [← meet_mem ha hb]
  unfold apB apTo at h
  obtain ⟨k, hk, hlt⟩ := List.any_eq_true.1 h
  have hlt : ((meetB a b).getD k rg0).hi < ((meetB a b).getD k rg0).lo := by simpa using hlt
  cases hm : memB (meetB a b) s
  · rfl
  · have := inG_iff.1 (memB_iff.1 hm k (List.mem_range.1 hk)); omega

theorem szTo_bd {b : List Rg} (hb : OkB b) : ∀ k, k ≤ 4 → 0 ≤ szTo b k ∧ szTo b k ≤ 1998 * k
  | 0, _ => by simp [szTo]
  | k + 1, hk => by
    have ih := szTo_bd hb k (by omega)
    have h := okG_iff.1 (hb.at_ (show k < 4 by omega))
    rw [szTo]; push_cast; omega

end Tinker

/- Plain mathematics, fifth part: slices. -/
set_option linter.unusedVariables false
set_option linter.unusedSimpArgs false
namespace Tinker

/-- m, and what is true of a below k. -/
def orTo (a m : List Bool) : Nat → List Bool
  | 0 => m
  | k + 1 => if a.getD k false then (orTo a m k).set k true else orTo a m k
theorem orTo_length (a m : List Bool) : ∀ k, (orTo a m k).length = m.length
  | 0 => rfl
  | k + 1 => by rw [orTo]; split <;> simp [orTo_length a m k]
/-- What matters before a line of the slice. -/
def matB (l : L) (m : List Bool) : List Bool := orTo (rd l) (if wr l then m.set l.to.toNat false else m) 4
theorem matB_length (l : L) (m : List Bool) : (matB l m).length = m.length := by
  unfold matB; rw [orTo_length]; split <;> simp

/-- Whether a line is in the slice. -/
def inSl (d m : List Bool) (i : Nat) (l : L) : Bool := d.getD i false && (l.op == 7 || (wr l && m.getD l.to.toNat false))
/-- One step backward: what matters, and what is in the slice. -/
def stSl (d : List Bool) (s : List Bool × List Bool) (x : Nat × L) : List Bool × List Bool :=
  (if inSl d s.1 x.1 x.2 then matB x.2 s.1 else s.1, s.2.set x.1 (inSl d s.1 x.1 x.2))
/-- The lines with their numbers, from the last one to the first one. -/
def backL (p : List L) : List (Nat × L) := ((List.range p.length).map (fun i => (i, p.getD i ⟨0, 0, 0, 0⟩))).reverse
def sl0 (r : Nat) : List Bool × List Bool := ([false, false, false, false].set r true, List.replicate 8 false)
/-- What is in the slice. -/
def sliceB (p : List L) (d : List Bool) (r : Nat) : List Bool := ((backL p).foldl (stSl d) (sl0 r)).2

theorem foldSl_length (d : List Bool) : ∀ (xs : List (Nat × L)) (s : List Bool × List Bool), (xs.foldl (stSl d) s).1.length = s.1.length ∧ (xs.foldl (stSl d) s).2.length = s.2.length
  | [], s => ⟨rfl, rfl⟩
  | x :: r, s => by
    rw [List.foldl_cons]
    have h := foldSl_length d r (stSl d s x)
    rw [h.1, h.2]
    unfold stSl
    refine ⟨?_, by simp⟩
    simp only
    split
    · rw [matB_length]
    · rfl
theorem fold_snoc {α β : Type} (f : β → α → β) (s : β) (pre : List α) (x : α) : (pre ++ [x]).foldl f s = f (pre.foldl f s) x := by simp

end Tinker

/- Plain mathematics, sixth part: what is done in ascending order, the states before, what is forced, slices by steps. -/
set_option linter.unusedVariables false
set_option linter.unusedSimpArgs false
namespace Tinker

/-- Strictly ascending lines. -/
def asc (st : List (Nat × List Int)) : Prop := st.Pairwise (fun x y => x.1 < y.1)

theorem tr_asc (p : List L) (f : Nat → Option Int) : ∀ (n i : Nat) (s : List Int), p.length - i ≤ n → asc (tr p f i s).1
  | 0, i, s, h => by rw [tr_ge (by omega)]; exact List.Pairwise.nil
  | n + 1, i, s, h => by
    rcases Nat.lt_or_ge i p.length with hi | hi
    · obtain ⟨l, hl⟩ := get_of_lt hi
      have hg := nxt_gt l s i
      rw [tr_lt hl]
      refine List.pairwise_cons.2 ⟨fun x hx => ?_, tr_asc p f n _ _ (by omega)⟩
      have := tr_from p f _ _ _ (Nat.le_refl _) x hx
      show i < x.1
      omega
    · rw [tr_ge hi]; exact List.Pairwise.nil

theorem asc_eq : ∀ {a b : List Nat}, a.Pairwise (· < ·) → b.Pairwise (· < ·) → (∀ x, x ∈ a ↔ x ∈ b) → a = b
  | [], [], _, _, _ => rfl
  | [], y :: b, _, _, h => absurd ((h y).2 (by simp)) (by simp)
  | x :: a, [], _, _, h => absurd ((h x).1 (by simp)) (by simp)
  | x :: a, y :: b, ha, hb, h => by
    rw [List.pairwise_cons] at ha hb
    have hxy : x = y := by
      rcases List.mem_cons.1 ((h x).1 (by simp)) with e | e
      · exact e
      · rcases List.mem_cons.1 ((h y).2 (by simp)) with e' | e'
        · exact e'.symm
        · have h1 := hb.1 x e
          have h2 := ha.1 y e'
          omega
    subst hxy
    congr 1
    refine asc_eq ha.2 hb.2 fun z => ⟨fun hz => ?_, fun hz => ?_⟩
    · rcases List.mem_cons.1 ((h z).1 (List.mem_cons_of_mem _ hz)) with e | e
      · subst e; exact absurd (ha.1 _ hz) (by omega)
      · exact e
    · rcases List.mem_cons.1 ((h z).2 (List.mem_cons_of_mem _ hz)) with e | e
      · subst e; exact absurd (hb.1 _ hz) (by omega)
      · exact e

theorem getD_set {α : Type} (l : List α) (i j : Nat) (x d : α) (hi : i < l.length) : (l.set i x).getD j d = if i = j then x else l.getD j d := by
  rw [List.getD_eq_getElem?_getD, List.getElem?_set, List.getD_eq_getElem?_getD]
  split
  · simp [hi]
  · rfl
theorem getD_set_ne {α : Type} (l : List α) {i j : Nat} (x d : α) (h : i ≠ j) : (l.set i x).getD j d = l.getD j d := by
  rw [List.getD_eq_getElem?_getD, List.getElem?_set_ne h, List.getD_eq_getElem?_getD]

theorem foldl_done : ∀ (st : List (Nat × List Int)) (d : List Bool) (i : Nat), i < d.length → (st.foldl (fun d x => d.set x.1 true) d).getD i false = (d.getD i false || st.any (·.1 == i))
  | [], d, i, hi => by simp
  | x :: r, d, i, hi => by
    rw [List.foldl_cons, foldl_done r _ i (by simpa using hi), List.any_cons]
    by_cases h : x.1 = i
    · rw [h, getD_set _ _ _ _ _ hi]; simp
    · have e : (x.1 == i) = false := by simpa using h
      rw [getD_set_ne _ _ _ h, e, Bool.false_or]
theorem rep_get {α : Type} (n i : Nat) (x : α) : (List.replicate n x).getD i x = x := by
  rw [List.getD_eq_getElem?_getD, List.getElem?_replicate]; split <;> rfl
theorem doneL_get (st : List (Nat × List Int)) {i : Nat} (hi : i < 8) : (doneL st).getD i false = st.any (·.1 == i) := by
  unfold doneL
  rw [foldl_done _ _ _ (by simpa using hi), rep_get]
  simp

/-- The lines of steps. -/
def linesOf (st : List (Nat × List Int)) : List Int := st.map (fun x => (x.1 : Int))
theorem plc_done {st : List (Nat × List Int)} (ha : asc st) (h8 : ∀ x ∈ st, x.1 < 8) : plc (doneL st) = linesOf st := by
  unfold plc plcTo linesOf
  rw [doneL_length]
  have e : (List.range 8).filter (fun i => (doneL st).getD i false) = st.map (·.1) := by
    refine asc_eq ?_ ?_ fun x => ?_
    · exact List.Pairwise.filter _ List.pairwise_lt_range
    · exact List.pairwise_map.2 ha
    · rw [List.mem_filter, List.mem_range, List.mem_map]
      constructor
      · rintro ⟨h1, h2⟩
        rw [doneL_get st h1, List.any_eq_true] at h2
        obtain ⟨y, hy, h⟩ := h2
        exact ⟨y, hy, by simpa using h⟩
      · rintro ⟨y, hy, rfl⟩
        exact ⟨h8 y hy, by rw [doneL_get st (h8 y hy), List.any_eq_true]; exact ⟨y, hy, by simp⟩⟩
  rw [e, List.map_map]; rfl

/-- The state before a line, if it is done. -/
def befAt (st : List (Nat × List Int)) (i : Nat) : Option (List Int) := (st.find? (·.1 == i)).map (·.2)
theorem befAt_done (st : List (Nat × List Int)) {i : Nat} (hi : i < 8) : (doneL st).getD i false = (befAt st i).isSome := by
  rw [doneL_get st hi, Bool.eq_iff_iff]; unfold befAt; rw [Option.isSome_map, List.any_eq_true, List.find?_isSome]
theorem befAt_mem {st : List (Nat × List Int)} {i : Nat} {s : List Int} (h : befAt st i = some s) : (i, s) ∈ st := by
  unfold befAt at h
  rw [Option.map_eq_some_iff] at h
  obtain ⟨x, hx, rfl⟩ := h
  have h1 := List.find?_some hx
  have h2 := List.mem_of_find?_eq_some hx
  simp only [beq_iff_eq] at h1
  subst h1
  exact h2

theorem put4_self {d : List Int} {i : Nat} {s : List Int} (h : i * 4 + 4 ≤ d.length) : ∀ j, j < 4 → (put4 d i s).getD (i * 4 + j) 0 = s.getD j 0 := by
  intro j hj
  unfold put4
  have c : j = 0 ∨ j = 1 ∨ j = 2 ∨ j = 3 := by omega
  rcases c with rfl | rfl | rfl | rfl
  · rw [getD_set_ne _ _ _ (by omega), getD_set_ne _ _ _ (by omega), getD_set_ne _ _ _ (by omega), getD_set _ _ _ _ _ (by omega), if_pos (by omega)]
  · rw [getD_set_ne _ _ _ (by omega), getD_set_ne _ _ _ (by omega), getD_set _ _ _ _ _ (by simp; omega), if_pos (by omega)]
  · rw [getD_set_ne _ _ _ (by omega), getD_set _ _ _ _ _ (by simp; omega), if_pos (by omega)]
  · rw [getD_set _ _ _ _ _ (by simp; omega), if_pos (by omega)]
theorem put4_other {d : List Int} {i k : Nat} {s : List Int} (h : i ≠ k) : ∀ j, j < 4 → (put4 d i s).getD (k * 4 + j) 0 = d.getD (k * 4 + j) 0 := by
  intro j hj
  unfold put4
  rw [getD_set_ne _ _ _ (by omega), getD_set_ne _ _ _ (by omega), getD_set_ne _ _ _ (by omega), getD_set_ne _ _ _ (by omega)]
theorem foldl_put_other : ∀ (st : List (Nat × List Int)) (d : List Int) (k : Nat), (∀ x ∈ st, x.1 ≠ k) → ∀ j, j < 4 → (st.foldl (fun d x => put4 d x.1 x.2) d).getD (k * 4 + j) 0 = d.getD (k * 4 + j) 0
  | [], d, k, h, j, hj => rfl
  | x :: r, d, k, h, j, hj => by
    rw [List.foldl_cons, foldl_put_other r _ k (fun y hy => h y (List.mem_cons_of_mem _ hy)) j hj]
    exact put4_other (h x (by simp)) j hj
theorem foldl_put_mem : ∀ (st : List (Nat × List Int)) (d : List Int) (x : Nat × List Int), asc st → x ∈ st → x.1 * 4 + 4 ≤ d.length → ∀ j, j < 4 → (st.foldl (fun d x => put4 d x.1 x.2) d).getD (x.1 * 4 + j) 0 = x.2.getD j 0
  | [], d, x, ha, hx, h, j, hj => by simp at hx
  | y :: r, d, x, ha, hx, h, j, hj => by
    have ha' := List.pairwise_cons.1 ha
    rw [List.foldl_cons]
    rcases List.mem_cons.1 hx with rfl | hx
    · rw [foldl_put_other r _ x.1 (fun z hz => by have := ha'.1 z hz; omega) j hj]
      exact put4_self h j hj
    · exact foldl_put_mem r _ x ha'.2 hx (by rw [put4_length]; exact h) j hj
theorem befL_get {st : List (Nat × List Int)} (ha : asc st) {i : Nat} {s : List Int} (h : befAt st i = some s) (h8 : i < 8) : ∀ j, j < 4 → (befL st).getD (i * 4 + j) 0 = s.getD j 0 := by
  unfold befL
  exact foldl_put_mem st _ (i, s) ha (befAt_mem h) (by simp; omega)

/-- What the lines are forced to write, by two lists, of which the first k count; the last one counts. -/
def fLk (ls vs : List Int) : Nat → Nat → Option Int
  | 0, _ => none
  | k + 1, i => if ls.getD k 0 = (i : Int) then some (vs.getD k 0) else fLk ls vs k i
def fL (ls vs : List Int) : Nat → Option Int := fLk ls vs ls.length
theorem fL_nil : fL [] [] = noF := rfl
theorem fLk_some {ls vs : List Int} {i : Nat} {n : Int} : ∀ {k : Nat}, fLk ls vs k i = some n → ∃ j, j < k ∧ ls.getD j 0 = (i : Int) ∧ vs.getD j 0 = n
  | 0, h => by simp [fLk] at h
  | k + 1, h => by
    unfold fLk at h
    split at h
    · rename_i h1; exact ⟨k, by omega, h1, by simpa using h⟩
    · obtain ⟨j, h1, h2, h3⟩ := fLk_some h; exact ⟨j, by omega, h2, h3⟩

/-- One step backward of the document's answer. -/
def stR (p : List L) (x : Nat × List Int) (s : List Bool × List Bool) : List Bool × List Bool :=
  let l := p.getD x.1 ⟨0, 0, 0, 0⟩
  if l.op == 7 || (wr l && s.1.getD l.to.toNat false) then (matB l s.1, s.2.set x.1 true) else s
def slR0 (n r : Nat) : List Bool × List Bool := ([false, false, false, false].set r true, List.replicate n false)
/-- What is in the slice, by the steps. -/
def sliceR (p : List L) (st : List (Nat × List Int)) (r : Nat) : List Bool := (st.foldr (stR p) (slR0 p.length r)).2

end Tinker

/- Plain mathematics, seventh part: the slice by all lines is the slice by the steps. -/
set_option linter.unusedVariables false
set_option linter.unusedSimpArgs false
namespace Tinker

def atL (p : List L) (i : Nat) : Nat × L := (i, p.getD i ⟨0, 0, 0, 0⟩)
theorem foldrSl_length (d : List Bool) (js : List (Nat × L)) (s : List Bool × List Bool) : (js.foldr (fun x s => stSl d s x) s).2.length = s.2.length := by
  induction js with
  | nil => rfl
  | cons x r ih =>
    rw [List.foldr_cons]
    generalize r.foldr (fun x s => stSl d s x) s = q at ih
    unfold stSl; simpa using ih
theorem foldrSR_length (p : List L) (st : List (Nat × List Int)) (s : List Bool × List Bool) : (st.foldr (stR p) s).2.length = s.2.length := by
  induction st with
  | nil => rfl
  | cons x r ih =>
    rw [List.foldr_cons]
    generalize r.foldr (stR p) s = q at ih
    unfold stR; simp only
    split
    · simpa using ih
    · exact ih

/-- What holds of both ways backward. -/
structure SlRel (p : List L) (st : List (Nat × List Int)) (A B : List Bool × List Bool) : Prop where
  m : A.1 = B.1
  s : ∀ j, A.2.getD j false = B.2.getD j false
  t : ∀ j, B.2.getD j false = true → ∃ x ∈ st, x.1 = j

theorem slRel (p : List L) (d : List Bool) (r : Nat) : ∀ (js : List Nat) (st : List (Nat × List Int)), js.Pairwise (· < ·) → asc st → (∀ x ∈ st, x.1 ∈ js) →
    (∀ j ∈ js, d.getD j false = st.any (·.1 == j)) → (∀ j ∈ js, j < 8 ∧ j < p.length) →
    SlRel p st ((js.map (atL p)).foldr (fun x s => stSl d s x) (sl0 r)) (st.foldr (stR p) (slR0 p.length r))
  | [], st, _, _, hs, _, _ => by
    have : st = [] := List.eq_nil_iff_forall_not_mem.2 fun x hx => by have := hs x hx; simp at this
    subst this
    refine ⟨rfl, fun j => ?_, fun j h => ?_⟩
    · show (List.replicate 8 false).getD j false = (List.replicate p.length false).getD j false
      rw [rep_get, rep_get]
    · have h' : (List.replicate p.length false).getD j false = true := h
      rw [rep_get] at h'; cases h'
  | j :: js, st, hj, ha, hs, hd, hb => by
    rw [List.pairwise_cons] at hj
    obtain ⟨hj8, hjp⟩ := hb j (by simp)
    have key : ∀ st', asc st' → (∀ x ∈ st', x.1 ∈ js) → (∀ k ∈ js, d.getD k false = st'.any (·.1 == k)) →
        SlRel p st' ((js.map (atL p)).foldr (fun x s => stSl d s x) (sl0 r)) (st'.foldr (stR p) (slR0 p.length r)) := fun st' h1 h2 h3 => slRel p d r js st' hj.2 h1 h2 h3 (fun k hk => hb k (List.mem_cons_of_mem _ hk))
    have hlen := foldrSl_length d (js.map (atL p)) (sl0 r)
    have hl8 : ((js.map (atL p)).foldr (fun x s => stSl d s x) (sl0 r)).2.length = 8 := by rw [hlen]; simp [sl0]
    rw [List.map_cons, List.foldr_cons]
    generalize hA : (js.map (atL p)).foldr (fun x s => stSl d s x) (sl0 r) = A at key hl8
    clear hlen hA
    by_cases hany : st.any (·.1 == j) = true
    · match st, ha, hs, hd, hany with
      | [], _, _, _, hany => simp at hany
      | x :: st', ha, hs, hd, hany =>
        have ha' := List.pairwise_cons.1 ha
        have hxj : x.1 = j := by
          rcases List.mem_cons.1 (hs x (by simp)) with e | e
          · exact e
          · have h1 := hj.1 _ e
            rw [List.any_eq_true] at hany
            obtain ⟨y, hy, hyj⟩ := hany
            simp only [beq_iff_eq] at hyj
            rcases List.mem_cons.1 hy with rfl | hy
            · exact hyj
            · have := ha'.1 y hy; omega
        have hr : ∀ y ∈ st', y.1 ∈ js := fun y hy => by
          rcases List.mem_cons.1 (hs y (List.mem_cons_of_mem _ hy)) with e | e
          · have := ha'.1 y hy; omega
          · exact e
        have K := key st' ha'.2 hr fun k hk => by
          rw [hd k (List.mem_cons_of_mem _ hk), List.any_cons]
          have := hj.1 k hk
          have : (x.1 == k) = false := by rw [beq_eq_false_iff_ne]; omega
          rw [this]; rfl
        have hdj : d.getD j false = true := by rw [hd j (by simp)]; exact hany
        rw [List.foldr_cons]
        have hlR := foldrSR_length p st' (slR0 p.length r)
        have hlR' : (st'.foldr (stR p) (slR0 p.length r)).2.length = p.length := by rw [hlR]; simp [slR0]
        generalize st'.foldr (stR p) (slR0 p.length r) = B at K hlR'
        clear hlR
        have hBj : B.2.getD j false = false := by
          cases hq : B.2.getD j false
          · rfl
          · obtain ⟨y, hy, hyj⟩ := K.t j hq
            have := hj.1 _ (hr y hy); omega
        obtain ⟨x1, x2⟩ := x
        simp only at hxj
        subst hxj
        have hin : inSl d A.1 x1 (p.getD x1 ⟨0, 0, 0, 0⟩) = ((p.getD x1 ⟨0, 0, 0, 0⟩).op == 7 || (wr (p.getD x1 ⟨0, 0, 0, 0⟩) && B.1.getD (p.getD x1 ⟨0, 0, 0, 0⟩).to.toNat false)) := by
          unfold inSl; rw [hdj, K.m, Bool.true_and]
        unfold stSl stR atL
        simp only
        rw [hin]
        split
        · refine ⟨by simp only [K.m], fun k => ?_, fun k hk => ?_⟩
          · simp only
            rw [getD_set _ _ _ _ _ (by omega), getD_set _ _ _ _ _ (by omega), K.s]
            rename_i hc
            rw [hc]
          · simp only at hk
            rw [getD_set _ _ _ _ _ (by omega)] at hk
            split at hk
            · rename_i e; exact ⟨(x1, x2), by simp, e⟩
            · obtain ⟨y, hy, e⟩ := K.t k hk; exact ⟨y, List.mem_cons_of_mem _ hy, e⟩
        · rename_i hc
          rw [Bool.not_eq_true] at hc
          refine ⟨K.m, fun k => ?_, fun k hk => ?_⟩
          · simp only
            rw [getD_set _ _ _ _ _ (by omega), hc]
            split
            · rename_i e; subst e; exact hBj.symm
            · exact K.s k
          · obtain ⟨y, hy, e⟩ := K.t k hk; exact ⟨y, List.mem_cons_of_mem _ hy, e⟩
    · rw [Bool.not_eq_true] at hany
      have hne : ∀ y ∈ st, y.1 ≠ j := fun y hy e => by
        have : st.any (·.1 == j) = true := List.any_eq_true.2 ⟨y, hy, by simpa using e⟩
        rw [hany] at this; cases this
      have K := key st ha (fun y hy => (List.mem_cons.1 (hs y hy)).resolve_left (hne y hy)) fun k hk => hd k (List.mem_cons_of_mem _ hk)
      generalize st.foldr (stR p) (slR0 p.length r) = B at K
      have hdj : d.getD j false = false := by rw [hd j (by simp)]; exact hany
      have hin : inSl d A.1 j (p.getD j ⟨0, 0, 0, 0⟩) = false := by unfold inSl; rw [hdj]; rfl
      have hBj : B.2.getD j false = false := by
        cases hq : B.2.getD j false
        · rfl
        · obtain ⟨y, hy, hyj⟩ := K.t j hq
          exact absurd hyj (hne y hy)
      unfold stSl atL
      simp only
      rw [hin]
      refine ⟨K.m, fun k => ?_, K.t⟩
      simp only
      rw [getD_set _ _ _ _ _ (by omega)]
      split
      · rename_i e; subst e; exact hBj.symm
      · exact K.s k

theorem plcTo_ext {a b : List Bool} (h : ∀ j, a.getD j false = b.getD j false) (k : Nat) : plcTo a k = plcTo b k := by
  unfold plcTo; simp only [h]
theorem plcTo_more (a : List Bool) : ∀ (m k : Nat), (∀ j, k ≤ j → a.getD j false = false) → plcTo a (k + m) = plcTo a k
  | 0, k, h => rfl
  | m + 1, k, h => by
    rw [← plcTo_more a m k h]
    unfold plcTo
    rw [← Nat.add_assoc, List.range_succ, List.filter_append, List.map_append]
    have e : [k + m].filter (fun i => a.getD i false) = [] := by
      rw [List.filter_cons, h (k + m) (by omega)]; rfl
    rw [e]; simp
theorem getD_ge {a : List Bool} {j : Nat} (h : a.length ≤ j) : a.getD j false = false := by
  rw [List.getD_eq_getElem?_getD, List.getElem?_eq_none h]; rfl
theorem plc_ext {a b : List Bool} (h : ∀ j, a.getD j false = b.getD j false) : plc a = plc b := by
  unfold plc
  rw [plcTo_ext h]
  rcases Nat.le_total a.length b.length with hl | hl
  · have e := plcTo_more b (b.length - a.length) a.length (fun j hj => by rw [← h]; exact getD_ge hj)
    rw [show a.length + (b.length - a.length) = b.length by omega] at e
    exact e.symm
  · have e := plcTo_more b (a.length - b.length) b.length (fun j hj => getD_ge hj)
    rw [show b.length + (a.length - b.length) = a.length by omega] at e
    exact e

/-- The slice by all lines is that by the steps. -/
theorem slice_eq {p : List L} {st : List (Nat × List Int)} (ha : asc st) (hp : p.length ≤ 8) (hs : ∀ x ∈ st, x.1 < p.length) (r : Nat) : plc (sliceB p (doneL st) r) = plc (sliceR p st r) := by
  refine plc_ext fun j => ?_
  have e : sliceB p (doneL st) r = (((List.range p.length).map (atL p)).foldr (fun x s => stSl (doneL st) s x) (sl0 r)).2 := by
    unfold sliceB backL
    rw [List.foldl_reverse]; rfl
  rw [e]
  refine (slRel p (doneL st) r (List.range p.length) st List.pairwise_lt_range ha (fun x hx => List.mem_range.2 (hs x hx)) (fun j hj => doneL_get st (by have := List.mem_range.1 hj; omega)) (fun j hj => ⟨by have := List.mem_range.1 hj; omega, List.mem_range.1 hj⟩)).s j

end Tinker

/- Plain mathematics, eighth part: what lines outside a slice write does not change its register. -/
set_option linter.unusedVariables false
set_option linter.unusedSimpArgs false
namespace Tinker

theorem orTo_get (a m : List Bool) (k : Nat) (hk : k < m.length) : ∀ n, (orTo a m n).getD k false = (m.getD k false || (decide (k < n) && a.getD k false))
  | 0 => by simp [orTo]
  | n + 1 => by
    unfold orTo
    have hl := orTo_length a m n
    have ih := orTo_get a m k hk n
    split
    · rename_i h
      rw [getD_set_gen, ih]
      by_cases e : n = k
      · subst e; rw [if_pos ⟨rfl, by omega⟩, h]; simp
      · rw [if_neg (fun x => e x.1)]
        have : decide (k < n + 1) = decide (k < n) := by simp; omega
        rw [this]
    · rename_i h
      rw [ih]
      by_cases e : n = k
      · subst e
        rw [Bool.not_eq_true] at h
        rw [h]; simp
      · have : decide (k < n + 1) = decide (k < n) := by simp; omega
        rw [this]
where
  getD_set_gen {l : List Bool} {i j : Nat} : (l.set i true).getD j false = if i = j ∧ i < l.length then true else l.getD j false := by
    by_cases h : i < l.length
    · rw [getD_set _ _ _ _ _ h]; simp [h]
    · rw [List.set_eq_of_length_le (by omega), if_neg (fun e => h e.2)]
theorem matB_get (l : L) (m : List Bool) (hm : m.length = 4) (k : Nat) (hk : k < 4) : (matB l m).getD k false = ((if wr l then m.set l.to.toNat false else m).getD k false || (rd l).getD k false) := by
  unfold matB
  have hl : k < (if wr l then m.set l.to.toNat false else m).length := by
    split
    · rw [List.length_set]; omega
    · omega
  rw [orTo_get _ _ _ hl]
  simp [hk]
theorem rd_a {l : L} (h : isLn l = true) (h2 : 2 ≤ l.op) : (rd l).getD l.a.toNat false = true := by
  have ha := isLn_a h h2
  unfold rd
  simp only
  rw [if_pos h2]
  have : ([false, false, false, false].set l.a.toNat true).getD l.a.toNat false = true := by rw [getD_set _ _ _ _ _ (by simp; omega), if_pos rfl]
  split
  · by_cases e : l.b.toNat = l.a.toNat
    · have hb := isLn_b h (by assumption)
      rw [getD_set _ _ _ _ _ (by simp; omega), if_pos e]
    · rw [getD_set_ne _ _ _ e]; exact this
  · exact this
theorem rd_b {l : L} (h : isLn l = true) (h3 : 3 ≤ l.op) : (rd l).getD l.b.toNat false = true := by
  have hb := isLn_b h h3
  unfold rd
  simp only
  rw [if_pos h3, getD_set _ _ _ _ _ (by split <;> simp <;> omega), if_pos rfl]
/-- Two states agree on what a line reads. -/
def agr (m : List Bool) (s t : List Int) : Prop := ∀ k, m.getD k false = true → s.getD k 0 = t.getD k 0
theorem val_agr {l : L} {s t : List Int} (h : isLn l = true) (hw : wr l = true) (ha : agr (rd l) s t) : Tinker.valOf l s = Tinker.valOf l t := by
  unfold Tinker.valOf
  have h7 := isLn_op h
  have h0 : l.op ≠ 0 := by simp [wr] at hw; exact hw.1
  have ra : 2 ≤ l.op → rg s l.a = rg t l.a := fun h2 => ha _ (rd_a h h2)
  have rb : 3 ≤ l.op → rg s l.b = rg t l.b := fun h3 => ha _ (rd_b h h3)
  by_cases e1 : l.op = 1
  · rw [if_pos e1, if_pos e1]
  · rw [if_neg e1, if_neg e1]
    by_cases e2 : l.op = 2
    · rw [if_pos e2, if_pos e2]; exact ra (by omega)
    · rw [if_neg e2, if_neg e2, ra (by omega), rb (by omega)]
theorem skips_agr {l : L} {s t : List Int} (h : isLn l = true) (ha : agr (rd l) s t) : skips l s = skips l t := by
  unfold skips
  by_cases e : l.op = 7
  · have ra : rg s l.a = rg t l.a := ha _ (rd_a h (by omega))
    have rb : rg s l.b = rg t l.b := ha _ (rd_b h (by omega))
    rw [ra, rb]
  · have : (l.op == 7) = false := by simpa using e
    rw [this]; rfl
theorem skips_no {l : L} {s : List Int} (h : l.op ≠ 7) : skips l s = false := by
  unfold skips
  have : (l.op == 7) = false := by simpa using h
  rw [this]; rfl
theorem wr_op8 {l : L} : wr l = true ↔ l.op ≠ 0 ∧ l.op ≠ 7 := by simp [wr]

theorem outside {p : List L} {f : Nat → Option Int} {r : Nat} (hv : ∀ l ∈ p, isLn l = true) (hr : r < 4) : ∀ (n i : Nat) (s t : List Int), p.length - i ≤ n → s.length = 4 → t.length = 4 →
    agr ((tr p noF i s).1.foldr (stR p) (slR0 p.length r)).1 s t →
    (∀ j, ((tr p noF i s).1.foldr (stR p) (slR0 p.length r)).2.getD j false = true → f j = none) →
    (tr p noF i s).2.getD r 0 = (tr p f i t).2.getD r 0
  | n, i, s, t, hn, hs, ht, ha, hf => by
    rcases Nat.lt_or_ge i p.length with hi | hi
    · match n, hn with
      | 0, hn => omega
      | n + 1, hn =>
      obtain ⟨l, hl⟩ := get_of_lt hi
      have hli := hv l (mem_of_get hl)
      have hpl : p.getD i ⟨0, 0, 0, 0⟩ = l := getD_of_get hl
      have hg := nxt_gt l s i
      have hmem : ∀ x ∈ (tr p noF (nxt l s i) (stp l s (noF i))).1, i < x.1 := fun x hx => by
        have := tr_from p noF _ _ _ (Nat.le_refl _) x hx; omega
      rw [tr_lt hl, List.foldr_cons] at ha hf
      rw [tr_lt hl, tr_lt hl]
      show (tr p noF (nxt l s i) (stp l s (noF i))).2.getD r 0 = (tr p f (nxt l t i) (stp l t (f i))).2.getD r 0
      have ih := outside (f := f) hv hr n (nxt l s i) (stp l s (noF i)) (stp l t (f i)) (by omega) (by rw [stp_length, hs]) (by rw [stp_length, ht])
      have hBl : ∀ st : List (Nat × List Int), ((st.foldr (stR p) (slR0 p.length r)).1).length = 4 := fun st => by
        induction st with
        | nil => simp [slR0]
        | cons x q ihq =>
          rw [List.foldr_cons]; unfold stR; simp only
          split
          · simp only [matB_length]; exact ihq
          · exact ihq
      have hB4 := hBl (tr p noF (nxt l s i) (stp l s (noF i))).1
      have hB2 := foldrSR_length p (tr p noF (nxt l s i) (stp l s (noF i))).1 (slR0 p.length r)
      have hB2' : ((tr p noF (nxt l s i) (stp l s (noF i))).1.foldr (stR p) (slR0 p.length r)).2.length = p.length := by rw [hB2]; simp [slR0]
      generalize hB : (tr p noF (nxt l s i) (stp l s (noF i))).1.foldr (stR p) (slR0 p.length r) = B at ha hf ih hB4 hB2'
      clear hB hBl hB2
      have hrest : ∀ j, B.2.getD j false = true → (stR p (i, s) B).2.getD j false = true := fun j hj => by
        unfold stR; simp only
        split
        · simp only; rw [getD_set _ _ _ _ _ (by omega)]; split
          · rfl
          · exact hj
        · exact hj
      have hf' : ∀ j, B.2.getD j false = true → f j = none := fun j hj => hf j (hrest j hj)
      by_cases hc : (l.op == 7 || (wr l && B.1.getD l.to.toNat false)) = true
      · have e : stR p (i, s) B = (matB l B.1, B.2.set i true) := by unfold stR; simp only [hpl]; rw [if_pos hc]
        rw [e] at ha hf
        have hfi : f i = none := hf i (by simp only; rw [getD_set _ _ _ _ _ (by omega), if_pos rfl])
        have hk4 : ∀ (m : List Bool) k, m.length = 4 → m.getD k false = true → k < 4 := fun m k h1 h2 => by
          rcases Nat.lt_or_ge k 4 with h | h
          · exact h
          · rw [getD_ge (by omega)] at h2; cases h2
        have hrd : agr (rd l) s t := fun k hk => by
          have hk4 := hk4 _ k (rd_length l) hk
          refine ha k ?_
          simp only
          rw [matB_get _ _ hB4 _ hk4, hk]; simp
        have hsk : skips l t = skips l s := (skips_agr hli hrd).symm
        have hnx : nxt l t i = nxt l s i := by unfold nxt; rw [hsk]
        rw [hnx]
        refine ih ?_ hf'
        intro k hk
        have hkk := hk4 _ k hB4 hk
        have hs0 : noF i = none := rfl
        rw [hfi, hs0]
        by_cases hw : wr l = true
        · have hto := isLn_to hli (by have := wr_op8.1 hw; have := isLn_op hli; omega) (by have := wr_op8.1 hw; have := isLn_op hli; omega)
          unfold stp
          rw [hw, if_pos rfl, if_pos rfl, val_agr hli hw hrd, getD_set _ _ _ _ _ (by omega), getD_set _ _ _ _ _ (by omega)]
          split
          · rfl
          · rename_i hne
            refine ha k ?_
            simp only
            rw [matB_get _ _ hB4 _ hkk, if_pos hw, getD_set_ne _ _ _ hne, hk]; rfl
        · unfold stp
          rw [if_neg hw, if_neg hw]
          refine ha k ?_
          simp only
          rw [matB_get _ _ hB4 _ hkk, if_neg hw, hk]; rfl
      · have e : stR p (i, s) B = B := by unfold stR; simp only [hpl]; rw [if_neg hc]
        rw [e] at ha
        rw [Bool.not_eq_true, Bool.or_eq_false_iff] at hc
        have h7 : l.op ≠ 7 := by simpa using hc.1
        have hnx : nxt l t i = nxt l s i := by unfold nxt; rw [skips_no h7, skips_no h7]
        rw [hnx]
        refine ih ?_ hf'
        intro k hk
        by_cases hw : wr l = true
        · have hm : B.1.getD l.to.toNat false = false := by have := hc.2; rw [hw] at this; simpa using this
          have hne : l.to.toNat ≠ k := fun e => by rw [e, hk] at hm; cases hm
          unfold stp
          rw [hw, if_pos rfl, if_pos rfl, getD_set_ne _ _ _ hne, getD_set_ne _ _ _ hne]
          exact ha k hk
        · unfold stp
          rw [if_neg hw, if_neg hw]
          exact ha k hk
    · rw [tr_ge hi] at ha
      rw [tr_ge hi, tr_ge hi]
      refine ha r ?_
      show ([false, false, false, false].set r true).getD r false = true
      rw [getD_set _ _ _ _ _ (by simpa using hr), if_pos rfl]

end Tinker

/- Plain mathematics, eleventh part: a program without what is outside a slice. -/
set_option linter.unusedVariables false
set_option linter.unusedSimpArgs false
namespace Tinker

/-- The line that does nothing. -/
def zL : L := ⟨0, 0, 0, 0⟩
theorem isLn_z : isLn zL = true := by decide
theorem stp_z (s : List Int) (o : Option Int) : stp zL s o = s := by unfold stp; rw [if_neg (by decide)]
theorem nxt_z (s : List Int) (i : Nat) : nxt zL s i = i + 1 := by unfold nxt; rw [skips_no (by decide)]; rfl
/-- What the slice by steps has is among the steps. -/
theorem foldrSR_mem {p : List L} {r : Nat} : ∀ {st : List (Nat × List Int)} {j : Nat}, (st.foldr (stR p) (slR0 p.length r)).2.getD j false = true → ∃ x ∈ st, x.1 = j
  | [], j, h => by
    have h' : (List.replicate p.length false).getD j false = true := h
    rw [rep_get] at h'; cases h'
  | x :: st, j, h => by
    rw [List.foldr_cons] at h
    unfold stR at h
    simp only at h
    split at h
    · simp only at h
      by_cases e : x.1 = j
      · exact ⟨x, by simp, e⟩
      · rw [getD_set_ne _ _ _ e] at h
        obtain ⟨y, hy, e⟩ := foldrSR_mem h
        exact ⟨y, List.mem_cons_of_mem _ hy, e⟩
    · obtain ⟨y, hy, e⟩ := foldrSR_mem h
      exact ⟨y, List.mem_cons_of_mem _ hy, e⟩

/-- A program in which lines that write, and are not in the slice, do nothing. -/
theorem less_run {p q : List L} {r : Nat} {R : Nat → Prop} (hv : ∀ l ∈ p, isLn l = true) (hr : r < 4) (hlen : q.length = p.length)
    (hR : ∀ i l, p[i]? = some l → (R i ∧ wr l = true ∧ q[i]? = some zL) ∨ (¬ R i ∧ q[i]? = some l)) : ∀ (n i : Nat) (s t : List Int), p.length - i ≤ n → s.length = 4 → t.length = 4 →
    agr ((tr p noF i s).1.foldr (stR p) (slR0 p.length r)).1 s t →
    (∀ j, R j → ((tr p noF i s).1.foldr (stR p) (slR0 p.length r)).2.getD j false = false) →
    (tr p noF i s).2.getD r 0 = (tr q noF i t).2.getD r 0 ∧ (tr q noF i t).1.foldr (stR q) (slR0 q.length r) = (tr p noF i s).1.foldr (stR p) (slR0 p.length r)
  | n, i, s, t, hn, hs, ht, ha, hf => by
    rcases Nat.lt_or_ge i p.length with hi | hi
    · match n, hn with
      | 0, hn => omega
      | n + 1, hn =>
      obtain ⟨l, hl⟩ := get_of_lt hi
      have hli := hv l (mem_of_get hl)
      have hpl : p.getD i ⟨0, 0, 0, 0⟩ = l := getD_of_get hl
      have hg := nxt_gt l s i
      rw [tr_lt hl, List.foldr_cons] at ha hf
      have ih := fun t' => less_run hv hr hlen hR n (nxt l s i) (stp l s (noF i)) t' (by omega) (by rw [stp_length, hs])
      have hBl : ∀ st : List (Nat × List Int), ((st.foldr (stR p) (slR0 p.length r)).1).length = 4 := fun st => by
        induction st with
        | nil => simp [slR0]
        | cons x q ihq =>
          rw [List.foldr_cons]; unfold stR; simp only
          split
          · simp only [matB_length]; exact ihq
          · exact ihq
      have hB4 := hBl (tr p noF (nxt l s i) (stp l s (noF i))).1
      have hB2 := foldrSR_length p (tr p noF (nxt l s i) (stp l s (noF i))).1 (slR0 p.length r)
      have hB2' : ((tr p noF (nxt l s i) (stp l s (noF i))).1.foldr (stR p) (slR0 p.length r)).2.length = p.length := by rw [hB2]; simp [slR0]
      rw [tr_lt hl]
      show (tr p noF (nxt l s i) (stp l s (noF i))).2.getD r 0 = (tr q noF i t).2.getD r 0 ∧ (tr q noF i t).1.foldr (stR q) (slR0 q.length r) = stR p (i, s) ((tr p noF (nxt l s i) (stp l s (noF i))).1.foldr (stR p) (slR0 p.length r))
      generalize (tr p noF (nxt l s i) (stp l s (noF i))).1.foldr (stR p) (slR0 p.length r) = B at ha hf ih hB4 hB2' ⊢
      clear hBl hB2
      have hrest : ∀ j, B.2.getD j false = true → (stR p (i, s) B).2.getD j false = true := fun j hj => by
        unfold stR; simp only
        split
        · simp only; rw [getD_set _ _ _ _ _ (by omega)]; split
          · rfl
          · exact hj
        · exact hj
      have hf' : ∀ j, R j → B.2.getD j false = false := fun j hj => by
        cases hq : B.2.getD j false
        · rfl
        · have := hrest j hq
          rw [hf j hj] at this; cases this
      have hs0 : noF i = none := rfl
      rcases hR i l hl with ⟨hRi, hw, hq⟩ | ⟨hRi, hq⟩
      · -- the line does nothing in the other program
        have h7 : l.op ≠ 7 := (wr_op8.1 hw).2
        have hm : B.1.getD l.to.toNat false = false := by
          cases hx : B.1.getD l.to.toNat false
          · rfl
          · have hc : (l.op == 7 || (wr l && B.1.getD l.to.toNat false)) = true := by rw [hw, hx]; simp
            have e : stR p (i, s) B = (matB l B.1, B.2.set i true) := by unfold stR; simp only [hpl]; rw [if_pos hc]
            have := hf i hRi
            rw [e] at this
            simp only at this
            rw [getD_set _ _ _ _ _ (by omega), if_pos rfl] at this
            cases this
        have e : stR p (i, s) B = B := by
          unfold stR; simp only [hpl]
          rw [if_neg (by rw [hw, hm]; simpa using h7)]
        rw [e] at ha ⊢
        have hqz : q.getD i ⟨0, 0, 0, 0⟩ = zL := getD_of_get hq
        rw [tr_lt hq]
        show _ = (tr q noF (nxt zL t i) (stp zL t (noF i))).2.getD r 0 ∧ stR q (i, t) ((tr q noF (nxt zL t i) (stp zL t (noF i))).1.foldr (stR q) (slR0 q.length r)) = B
        have hnx : nxt l s i = i + 1 := by unfold nxt; rw [skips_no h7]; rfl
        rw [nxt_z, stp_z]
        rw [hnx] at ih ⊢
        have ih' := ih t ht ?_ hf'
        · refine ⟨ih'.1, ?_⟩
          rw [ih'.2]
          unfold stR; simp only [hqz]
          rw [if_neg (by rw [show (zL.op == 7) = false from rfl, show wr zL = false from rfl]; simp)]
        · intro k hk
          have hne : l.to.toNat ≠ k := fun e2 => by rw [e2, hk] at hm; cases hm
          unfold stp
          rw [if_pos hw, getD_set_ne _ _ _ hne]
          exact ha k hk
      · -- the same line
        have hql : q.getD i ⟨0, 0, 0, 0⟩ = l := getD_of_get hq
        rw [tr_lt hq]
        show _ = (tr q noF (nxt l t i) (stp l t (noF i))).2.getD r 0 ∧ stR q (i, t) ((tr q noF (nxt l t i) (stp l t (noF i))).1.foldr (stR q) (slR0 q.length r)) = stR p (i, s) B
        have hst : ∀ C, stR q (i, t) C = stR p (i, s) C := fun C => by unfold stR; simp only [hql, hpl]
        have key : nxt l t i = nxt l s i ∧ agr B.1 (stp l s (noF i)) (stp l t (noF i)) := by
          have hk4 : ∀ (m : List Bool) k, m.length = 4 → m.getD k false = true → k < 4 := fun m k h1 h2 => by
            rcases Nat.lt_or_ge k 4 with h | h
            · exact h
            · rw [getD_ge (by omega)] at h2; cases h2
          by_cases hc : (l.op == 7 || (wr l && B.1.getD l.to.toNat false)) = true
          · have e : stR p (i, s) B = (matB l B.1, B.2.set i true) := by unfold stR; simp only [hpl]; rw [if_pos hc]
            rw [e] at ha
            have hrd : agr (rd l) s t := fun k hk => by
              have hk4 := hk4 _ k (rd_length l) hk
              refine ha k ?_
              simp only
              rw [matB_get _ _ hB4 _ hk4, hk]; simp
            have hsk : skips l t = skips l s := (skips_agr hli hrd).symm
            refine ⟨by unfold nxt; rw [hsk], fun k hk => ?_⟩
            have hkk := hk4 _ k hB4 hk
            by_cases hw : wr l = true
            · have hto := isLn_to hli (by have := wr_op8.1 hw; have := isLn_op hli; omega) (by have := wr_op8.1 hw; have := isLn_op hli; omega)
              unfold stp
              rw [hw, if_pos rfl, if_pos rfl, val_agr hli hw hrd, getD_set _ _ _ _ _ (by omega), getD_set _ _ _ _ _ (by omega)]
              split
              · rfl
              · rename_i hne
                refine ha k ?_
                simp only
                rw [matB_get _ _ hB4 _ hkk, if_pos hw, getD_set_ne _ _ _ hne, hk]; rfl
            · unfold stp
              rw [if_neg hw, if_neg hw]
              refine ha k ?_
              simp only
              rw [matB_get _ _ hB4 _ hkk, if_neg hw, hk]; rfl
          · have e : stR p (i, s) B = B := by unfold stR; simp only [hpl]; rw [if_neg hc]
            rw [e] at ha
            rw [Bool.not_eq_true, Bool.or_eq_false_iff] at hc
            have h7 : l.op ≠ 7 := by simpa using hc.1
            refine ⟨by unfold nxt; rw [skips_no h7, skips_no h7], fun k hk => ?_⟩
            by_cases hw : wr l = true
            · have hm : B.1.getD l.to.toNat false = false := by have := hc.2; rw [hw] at this; simpa using this
              have hne : l.to.toNat ≠ k := fun e => by rw [e, hk] at hm; cases hm
              unfold stp
              rw [hw, if_pos rfl, if_pos rfl, getD_set_ne _ _ _ hne, getD_set_ne _ _ _ hne]
              exact ha k hk
            · unfold stp
              rw [if_neg hw, if_neg hw]
              exact ha k hk
        rw [key.1]
        have ih' := ih (stp l t (noF i)) (by rw [stp_length, ht]) key.2 hf'
        exact ⟨ih'.1, by rw [ih'.2, hst]⟩
    · have hqi : q.length ≤ i := by omega
      rw [tr_ge hi] at ha ⊢
      rw [tr_ge hqi]
      refine ⟨ha r ?_, by rw [hlen]; rfl⟩
      show ([false, false, false, false].set r true).getD r false = true
      rw [getD_set _ _ _ _ _ (by simpa using hr), if_pos rfl]

/-- The program without the lines of which R holds. -/
def lessP (p : List L) (R : Nat → Bool) : Nat → List L
  | 0 => p
  | k + 1 => if wr (p.getD k ⟨0, 0, 0, 0⟩) && R k then (lessP p R k).set k zL else lessP p R k
theorem lessP_length (p : List L) (R : Nat → Bool) : ∀ k, (lessP p R k).length = p.length
  | 0 => rfl
  | k + 1 => by rw [lessP]; split <;> simp [lessP_length p R k]
theorem lessP_get (p : List L) (R : Nat → Bool) : ∀ (k i : Nat) (l : L), p[i]? = some l → (lessP p R k)[i]? = some (if i < k ∧ (wr l && R i) = true then zL else l)
  | 0, i, l, h => by rw [if_neg (by omega)]; exact h
  | k + 1, i, l, h => by
    have hi := (List.getElem?_eq_some_iff.1 h).1
    have ih := lessP_get p R k i l h
    rw [lessP]
    by_cases e : k = i
    · subst e
      rw [getD_of_get h]
      split
      · rename_i hc
        rw [List.getElem?_set_self (by rw [lessP_length]; exact hi), if_pos ⟨by omega, hc⟩]
      · rename_i hc
        rw [ih, if_neg (by omega), if_neg (fun x => hc x.2)]
    · have e2 : (if wr (p.getD k ⟨0, 0, 0, 0⟩) && R k then (lessP p R k).set k zL else lessP p R k)[i]? = (lessP p R k)[i]? := by
        split
        · rw [List.getElem?_set_ne e]
        · rfl
      rw [e2, ih]
      by_cases h1 : i < k
      · by_cases h2 : (wr l && R i) = true
        · rw [if_pos ⟨h1, h2⟩, if_pos ⟨by omega, h2⟩]
        · rw [if_neg (fun x => h2 x.2), if_neg (fun x => h2 x.2)]
      · rw [if_neg (fun x => h1 x.1), if_neg (fun x => by omega)]
theorem lessP_valid {p : List L} {R : Nat → Bool} (hv : ∀ l ∈ p, isLn l = true) (k : Nat) : ∀ l ∈ lessP p R k, isLn l = true := fun l hl => by
  obtain ⟨i, hi⟩ := List.mem_iff_getElem?.1 hl
  have hlt : i < p.length := by rw [← lessP_length p R k]; exact (List.getElem?_eq_some_iff.1 hi).1
  obtain ⟨x, hx⟩ := get_of_lt hlt
  rw [lessP_get p R k i x hx] at hi
  injection hi with hi
  subst hi
  split
  · exact isLn_z
  · exact hv x (mem_of_get hx)

end Tinker

/- Plain mathematics of spans, third part: all boxes that come to a line, as the document lists them. -/
set_option linter.unusedVariables false
set_option linter.unusedSimpArgs false
namespace Tinker

/-- The hull of a list of boxes, if there is one. -/
def hO : List (List Rg) → Option (List Rg)
  | [] => none
  | b :: q => some (q.foldl hullB b)
theorem hO_snoc (l : List (List Rg)) (x : List Rg) : hO (l ++ [x]) = some (match hO l with | none => x | some y => hullB y x) := by
  cases l with
  | nil => rfl
  | cons b q => simp [hO]
/-- A box comes to a line. -/
def dRecv (st : List (List (List Rg))) (j : Nat) (b : List Rg) : List (List (List Rg)) := st.set j (st.getD j [] ++ [b])
def dStep (ps : List L) (st : List (List (List Rg))) (i : Nat) : List (List (List Rg)) :=
  match hO (st.getD i []), ps[i]? with
  | some x, some l =>
    let s1 := if goB l x then dRecv st (i + 1) (afB l x) else st
    if skpB l x then dRecv s1 (min (i + 1 + l.to.toNat) ps.length) x else s1
  | _, _ => st
def dAt (ps : List L) (b : List Rg) : Nat → List (List (List Rg))
  | 0 => (List.replicate (ps.length + 1) []).set 0 [b]
  | k + 1 => dStep ps (dAt ps b k) k
def dL (ps : List L) (b : List Rg) : List (List (List Rg)) := dAt ps b ps.length

theorem dRecv_len (st : List (List (List Rg))) (j : Nat) (b : List Rg) : (dRecv st j b).length = st.length := by simp [dRecv]
theorem dStep_len (ps : List L) (st : List (List (List Rg))) (i : Nat) : (dStep ps st i).length = st.length := by
  unfold dStep
  split
  · dsimp only; split <;> split <;> simp [dRecv_len]
  · rfl
theorem dAt_len (ps : List L) (b : List Rg) : ∀ k, (dAt ps b k).length = ps.length + 1
  | 0 => by simp [dAt]
  | k + 1 => by rw [dAt, dStep_len, dAt_len ps b k]
theorem mapO_getD (st : List (List (List Rg))) (i : Nat) : (st.map hO).getD i none = hO (st.getD i []) := by
  rw [List.getD_eq_getElem?_getD, List.getD_eq_getElem?_getD, List.getElem?_map]
  cases st[i]? <;> rfl
theorem dRecv_O (st : List (List (List Rg))) (j : Nat) (b : List Rg) : (dRecv st j b).map hO = recv (st.map hO) j b := by
  unfold dRecv recv
  rw [List.map_set, hO_snoc, mapO_getD]
  try (cases hO (st.getD j []) <;> rfl)
theorem dStep_O (ps : List L) (st : List (List (List Rg))) (i : Nat) : (dStep ps st i).map hO = spStep ps (st.map hO) i := by
  unfold dStep spStep
  rw [mapO_getD]
  cases hO (st.getD i []) with
  | none => rfl
  | some x =>
    cases ps[i]? with
    | none => rfl
    | some l =>
      dsimp only
      cases goB l x <;> cases skpB l x <;> simp [dRecv_O]
theorem dAt_O (ps : List L) (b : List Rg) : ∀ k, (dAt ps b k).map hO = spAt ps b k
  | 0 => by rw [dAt, spAt, List.map_set, List.map_replicate]; rfl
  | k + 1 => by rw [dAt, dStep_O, dAt_O ps b k]; rfl
theorem dAt_get (ps : List L) (b : List Rg) (k i : Nat) : hO ((dAt ps b k).getD i []) = (spAt ps b k).getD i none := by rw [← dAt_O, mapO_getD]
theorem dL_get (ps : List L) (b : List Rg) (i : Nat) : hO ((dL ps b).getD i []) = (spL ps b).getD i none := dAt_get ps b ps.length i
theorem dRecv_same {st : List (List (List Rg))} {j : Nat} (hj : j < st.length) (b : List Rg) : (dRecv st j b).getD j [] = st.getD j [] ++ [b] := by unfold dRecv; exact gDset_eq hj
theorem dRecv_other {st : List (List (List Rg))} {j k : Nat} (h : j ≠ k) (b : List Rg) : (dRecv st j b).getD k [] = st.getD k [] := by unfold dRecv; exact gDset_ne h
theorem dStep_none {ps : List L} {st : List (List (List Rg))} {i : Nat} (h : st.getD i [] = []) : dStep ps st i = st := by unfold dStep; rw [h]; rfl
theorem dStep_some {ps : List L} {st : List (List (List Rg))} {i : Nat} {x : List Rg} {l : L} (h : hO (st.getD i []) = some x) (hl : ps[i]? = some l) :
    dStep ps st i = (if skpB l x then dRecv (if goB l x then dRecv st (i + 1) (afB l x) else st) (min (i + 1 + l.to.toNat) ps.length) x else (if goB l x then dRecv st (i + 1) (afB l x) else st)) := by
  unfold dStep; rw [h, hl]

/-- All boxes are valid, and there are not many. -/
structure OkD (n : Nat) (st : List (List (List Rg))) : Prop where
  ok : ∀ j, ∀ x ∈ st.getD j [], OkB x
  few : ∀ j, (st.getD j []).length ≤ n
theorem OkD.more {n m : Nat} {st : List (List (List Rg))} (h : OkD n st) (hm : n ≤ m) : OkD m st := ⟨h.ok, fun j => Nat.le_trans (h.few j) hm⟩
theorem OkD.recv {n : Nat} {st : List (List (List Rg))} (h : OkD n st) {j : Nat} {b : List Rg} (hb : OkB b) (hj : j < st.length) : OkD (n + 1) (dRecv st j b) := by
  refine ⟨fun k => ?_, fun k => ?_⟩
  · by_cases e : j = k
    · subst e
      rw [dRecv_same hj]
      intro x hx
      rcases List.mem_append.1 hx with h1 | h1
      · exact h.ok j x h1
      · simp at h1; subst h1; exact hb
    · rw [dRecv_other e]; exact h.ok k
  · by_cases e : j = k
    · subst e
      rw [dRecv_same hj, List.length_append]
      have h1 := h.few j
      show (st.getD j []).length + 1 ≤ n + 1
      omega
    · rw [dRecv_other e]; have := h.few k; omega
theorem okB_fold : ∀ {q : List (List Rg)} {b : List Rg}, OkB b → (∀ x ∈ q, OkB x) → OkB (q.foldl hullB b)
  | [], _, hb, _ => hb
  | c :: q, b, hb, h => okB_fold (q := q) (okB_hull hb (h c (by simp))) (fun x hx => h x (by simp [hx]))
theorem okB_hO {l : List (List Rg)} {x : List Rg} (h : ∀ y ∈ l, OkB y) (hx : hO l = some x) : OkB x := by
  cases l with
  | nil => simp [hO] at hx
  | cons b q =>
    simp only [hO, Option.some.injEq] at hx
    rw [← hx]
    exact okB_fold (h b (by simp)) (fun y hy => h y (by simp [hy]))
theorem OkD.step {ps : List L} {st : List (List (List Rg))} {i n : Nat} (hv : ∀ l ∈ ps, isLn l = true) (hl : st.length = ps.length + 1) (h : OkD n st) : OkD (n + 2) (dStep ps st i) := by
  cases hx : hO (st.getD i []) with
  | none =>
    rw [show dStep ps st i = st by unfold dStep; rw [hx]]
    exact h.more (by omega)
  | some x =>
    cases hp : ps[i]? with
    | none =>
      rw [show dStep ps st i = st by unfold dStep; rw [hx, hp]]
      exact h.more (by omega)
    | some l =>
      have hln := hv l (mem_of_get hp)
      have hi := (List.getElem?_eq_some_iff.1 hp).1
      have hxo := okB_hO (h.ok i) hx
      rw [dStep_some hx hp]
      have h1 : OkD (n + 1) (if goB l x then dRecv st (i + 1) (afB l x) else st) := by
        split
        · exact h.recv (okB_af hln hxo) (by omega)
        · exact h.more (by omega)
      have hlen : (if goB l x then dRecv st (i + 1) (afB l x) else st).length = ps.length + 1 := by split <;> simp [dRecv_len, hl]
      split
      · exact h1.recv hxo (by omega)
      · exact h1.more (by omega)
theorem okD_at {ps : List L} {b : List Rg} (hv : ∀ l ∈ ps, isLn l = true) (hb : OkB b) : ∀ k, OkD (2 * k + 1) (dAt ps b k)
  | 0 => by
    refine ⟨fun j => ?_, fun j => ?_⟩
    · rw [dAt]
      by_cases e : 0 = j
      · subst e; rw [gDset_eq (by simp)]; intro x hx; simp at hx; subst hx; exact hb
      · rw [gDset_ne e, List.getD_eq_getElem?_getD, List.getElem?_replicate]
        intro x hx; split at hx <;> simp at hx
    · rw [dAt]
      by_cases e : 0 = j
      · subst e; rw [gDset_eq (by simp)]; simp
      · rw [gDset_ne e, List.getD_eq_getElem?_getD, List.getElem?_replicate]
        split <;> simp
  | k + 1 => by
    have := (okD_at hv hb k).step (i := k) hv (dAt_len ps b k)
    rw [dAt]; exact this.more (by omega)
/-- What a Skip does, as the document tests it. -/
theorem go_same {l : L} {x : List Rg} (hl : isLn l = true) (hx : OkB x) (h7 : l.op = 7) (h : l.a = l.b) : goB l x = true := by
  have ha := isLn_a hl (by omega)
  have A := okG_iff.1 (hx.g ha.1 ha.2)
  unfold goB; rw [← h]; simp [A.2.2]
theorem go_seven {l : L} {x : List Rg} (h7 : l.op = 7) : goB l x = decide ((gAt x l.b).lo ≤ (gAt x l.a).hi) := by unfold goB; simp [h7]
theorem skp_seven {l : L} {x : List Rg} (h7 : l.op = 7) : skpB l x = (l.a != l.b && decide ((gAt x l.a).lo < (gAt x l.b).hi)) := by unfold skpB; simp [h7]
theorem go_else {l : L} {x : List Rg} (h7 : l.op ≠ 7) : goB l x = true := by unfold goB; simp [h7]
theorem skp_else {l : L} {x : List Rg} (h7 : l.op ≠ 7) : skpB l x = false := by unfold skpB; simp [h7]

/-- The lines that are reached, or not. -/
def rcL (ps : List L) (b : List Rg) (r : Bool) (k : Nat) : List Int := ((List.range k).filter fun i => ((spL ps b).getD i none).isSome == r).map fun i : Nat => (i : Int)
theorem rcL_succ {ps : List L} {b : List Rg} {r : Bool} {k : Nat} : rcL ps b r (k + 1) = if (((spL ps b).getD k none).isSome == r) = true then rcL ps b r k ++ [(k : Int)] else rcL ps b r k := by
  unfold rcL; rw [List.range_succ, List.filter_append, List.map_append]
  split
  · rename_i h; rw [List.filter_cons_of_pos (by exact h)]; rfl
  · rename_i h; rw [List.filter_cons_of_neg (by exact h)]; simp
theorem rcL_both (ps : List L) (b : List Rg) : ∀ k, (rcL ps b true k).length + (rcL ps b false k).length = k
  | 0 => rfl
  | k + 1 => by
    have ih := rcL_both ps b k
    rw [rcL_succ, rcL_succ]
    cases ((spL ps b).getD k none).isSome <;> simp <;> omega

end Tinker
