/- Several texts in one. -/
import Derived.Test.YtikblaebfpdngaaEdM
/- Plain mathematics: what changes a program, patches together. -/
set_option linter.unusedVariables false
set_option linter.unusedSimpArgs false
namespace Tinker

/-- Two lines are equal. -/
def eqL (l m : L) : Bool := (l.op == m.op && l.to == m.to) && (l.a == m.a && l.b == m.b)
theorem eqL_iff {l m : L} : eqL l m = true ↔ l = m := by
  cases l; cases m
  unfold eqL
  simp
  constructor
  · rintro ⟨⟨h1, h2⟩, h3, h4⟩; exact ⟨h1, h2, h3, h4⟩
  · rintro ⟨h1, h2, h3, h4⟩; exact ⟨⟨h1, h2⟩, h3, h4⟩
theorem eqL_self (l : L) : eqL l l = true := eqL_iff.2 rfl
/-- The line at a place. -/
def lnD (ps : List L) (i : Nat) : L := ps.getD i ⟨0, 0, 0, 0⟩
theorem lnD_at {ps : List L} {i : Nat} {l : L} (h : ps[i]? = some l) : lnD ps i = l := getD_of_get h
/-- The edits for the first k lines in which programs differ. -/
def dfTo (ps qs : List L) (k : Nat) : List E := ((List.range k).filter fun i => !eqL (lnD qs i) (lnD ps i)).map fun i : Nat => ⟨(i : Int), lnD qs i⟩
theorem dfTo_0 (ps qs : List L) : dfTo ps qs 0 = [] := rfl
theorem dfTo_yes {ps qs : List L} {k : Nat} {l m : L} (hp : ps[k]? = some m) (hq : qs[k]? = some l) (h : eqL l m = false) : dfTo ps qs (k + 1) = dfTo ps qs k ++ [⟨(k : Int), l⟩] := by
  unfold dfTo
  rw [List.range_succ, List.filter_append, List.map_append]
  congr 1
  rw [List.filter_cons, lnD_at hp, lnD_at hq, h]
  show [E.mk (k : Int) (lnD qs k)] = _
  rw [lnD_at hq]
theorem dfTo_no {ps qs : List L} {k : Nat} {l m : L} (hp : ps[k]? = some m) (hq : qs[k]? = some l) (h : eqL l m = true) : dfTo ps qs (k + 1) = dfTo ps qs k := by
  unfold dfTo
  rw [List.range_succ, List.filter_append, List.map_append]
  rw [List.filter_cons, lnD_at hp, lnD_at hq, h]
  show _ ++ [] = _
  rw [List.append_nil]
def dfL (ps qs : List L) : List E := dfTo ps qs qs.length
theorem dfTo_len (ps qs : List L) (k : Nat) : (dfTo ps qs k).length ≤ k := by
  unfold dfTo
  rw [List.length_map]
  have := List.length_filter_le (fun i => !eqL (lnD qs i) (lnD ps i)) (List.range k)
  rwa [List.length_range] at this
theorem df_mem {ps qs : List L} {e : E} : e ∈ dfL ps qs ↔ ∃ i : Nat, i < qs.length ∧ e = ⟨(i : Int), lnD qs i⟩ ∧ lnD qs i ≠ lnD ps i := by
  unfold dfL dfTo
  rw [List.mem_map]
  constructor
  · rintro ⟨i, hi, rfl⟩
    rw [List.mem_filter, List.mem_range] at hi
    refine ⟨i, hi.1, rfl, fun h => ?_⟩
    rw [h, eqL_self] at hi
    cases hi.2
  · rintro ⟨i, hi, rfl, hne⟩
    refine ⟨i, ?_, rfl⟩
    rw [List.mem_filter, List.mem_range]
    refine ⟨hi, ?_⟩
    cases h : eqL (lnD qs i) (lnD ps i)
    · rfl
    · exact absurd (eqL_iff.1 h) hne
theorem range_pair (k : Nat) : (List.range k).Pairwise (· < ·) := List.pairwise_lt_range
theorem df_dist (ps qs : List L) : dist (dfL ps qs) := by
  unfold dist dfL dfTo
  rw [List.pairwise_map]
  refine ((range_pair _).filter _).imp fun h => ?_
  show ((_ : Nat) : Int) < ((_ : Nat) : Int)
  omega
theorem df_at0 {ps qs : List L} : ∀ e ∈ dfL ps qs, 0 ≤ e.at_ := by
  intro e he
  obtain ⟨i, _, rfl, _⟩ := df_mem.1 he
  show (0 : Int) ≤ (i : Int)
  omega
theorem do_df {ps qs : List L} (hl : ps.length = qs.length) : doL ps (dfL ps qs) = qs := by
  refine lines_ext (by rw [doL_len, hl]) fun i hi => ?_
  have hi2 : i < ps.length := by rw [doL_len] at hi; exact hi
  rw [doL_get _ _ i (df_dist ps qs) df_at0 hi2]
  obtain ⟨l, hq⟩ := get_of_lt (show i < qs.length by omega)
  rw [hq]
  congr 1
  by_cases h : lnD qs i = lnD ps i
  · rw [atX_none]
    · show lnD ps i = l
      rw [← h, lnD_at hq]
    · intro e he
      obtain ⟨j, _, rfl, hne⟩ := df_mem.1 he
      intro e2
      have e3 : (j : Int) = (i : Int) := e2
      have : j = i := by omega
      subst this
      exact hne h
  · have he : (⟨(i : Int), lnD qs i⟩ : E) ∈ dfL ps qs := df_mem.2 ⟨i, by omega, rfl, h⟩
    have := atX_mem (df_dist ps qs) he
    rw [show atX (dfL ps qs) (i : Int) = some (lnD qs i) from this, lnD_at hq]
    rfl
/-- The code of Diff, and its answer. -/
def dfC (ps qs : List L) : Int := if fe (vp ps) (vp qs) = 0 then (if ps.length = qs.length then (if 4 < (dfL ps qs).length then 3 else 0) else 9) else fe (vp ps) (vp qs)
def dfR (ps qs : List L) : List E := if dfC ps qs = 0 then dfL ps qs else []
theorem dfC_ok {ps qs : List L} (h : dfC ps qs = 0) : vp ps = 0 ∧ vp qs = 0 ∧ ps.length = qs.length ∧ (dfL ps qs).length ≤ 4 := by
  unfold dfC at h
  split at h
  · rename_i h0
    obtain ⟨h1, h2⟩ := fe_0 h0
    split at h
    · rename_i h3
      split at h
      · cases h
      · exact ⟨h1, h2, h3, by omega⟩
    · cases h
  · rename_i h0; exact absurd h h0
theorem allBtw_of {l : List Int} {lo hi : Int} (h : ∀ n ∈ l, lo ≤ n ∧ n ≤ hi) : allBtw l lo hi = true := List.all_eq_true.2 fun n hn => btw_true.2 (h n hn)
theorem df_vpx {ps qs : List L} (h : dfC ps qs = 0) : vpx ps (dfL ps qs) 0 = 0 := by
  obtain ⟨h1, h2, h3, h4⟩ := dfC_ok h
  have h8 := (vp_ok h2).1
  have hx : vx (dfL ps qs) = 0 := by
    refine vx_0 h4 (set_of (df_dist ps qs)) fun e he => ?_
    obtain ⟨i, hi, rfl, _⟩ := df_mem.1 he
    rw [Bool.and_eq_true]
    refine ⟨btw_true.2 ⟨?_, ?_⟩, ?_⟩
    · show (0 : Int) ≤ (i : Int); omega
    · show (i : Int) ≤ 7; omega
    · obtain ⟨l, hl⟩ := get_of_lt hi
      show isLn (lnD qs i) = true
      rw [lnD_at hl]
      exact (vp_ok h2).2 l (mem_of_get hl)
  unfold vpx
  rw [h1, hx]
  rw [if_pos (by rfl), if_pos]
  refine allBtw_of fun n hn => ?_
  obtain ⟨e, he, rfl⟩ := List.mem_map.1 hn
  obtain ⟨i, hi, rfl, _⟩ := df_mem.1 he
  show 0 ≤ (i : Int) ∧ (i : Int) ≤ _
  omega

/-- In how many fields two lines differ. -/
def b1 (b : Bool) : Int := if b then 1 else 0
def dsN (l m : L) : Int := b1 (l.op != m.op) + b1 (l.to != m.to) + b1 (l.a != m.a) + b1 (l.b != m.b)
theorem b1_le (b : Bool) : 0 ≤ b1 b ∧ b1 b ≤ 1 := by cases b <;> decide
theorem dsN_le (l m : L) : 0 ≤ dsN l m ∧ dsN l m ≤ 4 := by
  unfold dsN
  have := b1_le (l.op != m.op); have := b1_le (l.to != m.to); have := b1_le (l.a != m.a); have := b1_le (l.b != m.b)
  omega
theorem dsN_self (l : L) : dsN l l = 0 := by unfold dsN b1; simp
theorem dsN_ne {l m : L} (h : l ≠ m) : 1 ≤ dsN l m := by
  have h1 := b1_le (l.op != m.op); have h2 := b1_le (l.to != m.to); have h3 := b1_le (l.a != m.a); have h4 := b1_le (l.b != m.b)
  unfold dsN
  by_cases e1 : l.op = m.op
  · by_cases e2 : l.to = m.to
    · by_cases e3 : l.a = m.a
      · by_cases e4 : l.b = m.b
        · exact absurd (by cases l; cases m; simp_all) h
        · rw [show (l.b != m.b) = true by simpa using e4] at *; have : b1 true = 1 := rfl; omega
      · rw [show (l.a != m.a) = true by simpa using e3] at *; have : b1 true = 1 := rfl; omega
    · rw [show (l.to != m.to) = true by simpa using e2] at *; have : b1 true = 1 := rfl; omega
  · rw [show (l.op != m.op) = true by simpa using e1] at *; have : b1 true = 1 := rfl; omega
theorem dsN_comm (l m : L) : dsN l m = dsN m l := by
  unfold dsN
  have h : ∀ a b : Int, (a != b) = (b != a) := fun a b => by rw [Bool.eq_iff_iff]; simp; exact ⟨fun h e => h e.symm, fun h e => h e.symm⟩
  rw [h l.op, h l.to, h l.a, h l.b]
/-- The size of a patch. -/
def szL (ps : List L) (xs : List E) : Int := (xs.map fun e => dsN e.ln (lnD ps e.at_.toNat)).sum
theorem szL_snoc (ps : List L) (xs : List E) (e : E) : szL ps (xs ++ [e]) = szL ps xs + dsN e.ln (lnD ps e.at_.toNat) := by unfold szL; rw [List.map_append, List.sum_append]; simp
theorem szL_cons (ps : List L) (xs : List E) (e : E) : szL ps (e :: xs) = dsN e.ln (lnD ps e.at_.toNat) + szL ps xs := by unfold szL; rw [List.map_cons, List.sum_cons]
theorem szL_le (ps : List L) : ∀ xs : List E, 0 ≤ szL ps xs ∧ szL ps xs ≤ 4 * (xs.length : Int)
  | [] => ⟨by simp [szL], by simp [szL]⟩
  | e :: xs => by
    have := szL_le ps xs
    have := dsN_le e.ln (lnD ps e.at_.toNat)
    rw [szL_cons, List.length_cons]
    constructor <;> omega
def szR (ps : List L) (xs : List E) : Int := if vpx ps xs 0 = 0 then szL ps xs else 0
/-- What changes something. -/
def clL (ps : List L) (xs : List E) : List E := xs.filter fun e => !eqL e.ln (lnD ps e.at_.toNat)
theorem cl_mem {ps : List L} {xs : List E} {e : E} : e ∈ clL ps xs ↔ e ∈ xs ∧ e.ln ≠ lnD ps e.at_.toNat := by
  unfold clL
  rw [List.mem_filter]
  constructor
  · rintro ⟨h1, h2⟩
    refine ⟨h1, fun h => ?_⟩
    rw [h, eqL_self] at h2
    cases h2
  · rintro ⟨h1, h2⟩
    refine ⟨h1, ?_⟩
    cases h : eqL e.ln (lnD ps e.at_.toNat)
    · rfl
    · exact absurd (eqL_iff.1 h) h2
theorem cl_dist {ps : List L} {xs : List E} (h : dist xs) : dist (clL ps xs) := List.Pairwise.filter _ h
theorem ext_dist {xs ys : List E} (h1 : dist xs) (h2 : dist ys) (h : ∀ e, e ∈ xs ↔ e ∈ ys) : xs = ys :=
  srt_unique (r := fun a b : E => a.at_ < b.at_) (fun a b h1 h2 => by omega) h1 h2 h
theorem df_do {ps : List L} {xs : List E} (hd : dist xs) (h0 : ∀ e ∈ xs, 0 ≤ e.at_) (hl : ∀ e ∈ xs, e.at_.toNat < ps.length) : dfL ps (doL ps xs) = clL ps xs := by
  refine ext_dist (df_dist _ _) (cl_dist hd) fun e => ?_
  rw [df_mem, cl_mem]
  constructor
  · rintro ⟨i, hi, rfl, hne⟩
    rw [doL_len] at hi
    have hg := lnD_at (doL_get xs ps i hd h0 hi)
    rw [hg] at hne ⊢
    cases ha : atX xs (i : Int) with
    | none => rw [ha] at hne; exact absurd rfl hne
    | some l =>
      rw [ha] at hne
      obtain ⟨x, hx, h1, h2⟩ := atX_some ha
      have e1 : x = ⟨(i : Int), l⟩ := by cases x; subst h1 h2; rfl
      subst e1
      exact ⟨hx, by show l ≠ lnD ps ((i : Int).toNat); rw [Int.toNat_natCast]; exact hne⟩
  · rintro ⟨he, hne⟩
    have e0 := h0 e he
    have el := hl e he
    refine ⟨e.at_.toNat, by rw [doL_len]; exact el, ?_, ?_⟩ <;>
      rw [lnD_at (doL_get xs ps e.at_.toNat hd h0 el), show ((e.at_.toNat : Nat) : Int) = e.at_ by omega, atX_mem hd he]
    · rfl
    · exact hne
def clR (ps : List L) (xs : List E) : List E := if vpx ps xs 0 = 0 then clL ps xs else []
theorem cl_size (ps : List L) : ∀ xs : List E, szL ps (clL ps xs) = szL ps xs ∧ ((clL ps xs).length : Int) ≤ szL ps xs
  | [] => ⟨rfl, by simp [clL, szL]⟩
  | e :: xs => by
    obtain ⟨h1, h2⟩ := cl_size ps xs
    unfold clL at h1 h2 ⊢
    rw [List.filter_cons]
    cases h : eqL e.ln (lnD ps e.at_.toNat)
    · have hne : e.ln ≠ lnD ps e.at_.toNat := fun h' => by rw [h', eqL_self] at h; cases h
      have := dsN_ne hne
      simp only [Bool.not_false, if_true]
      rw [szL_cons, szL_cons, h1, List.length_cons]
      refine ⟨rfl, ?_⟩
      omega
    · have he := eqL_iff.1 h
      simp only [Bool.not_true, Bool.false_eq_true, if_false]
      rw [szL_cons, he, dsN_self, h1]
      exact ⟨by omega, by omega⟩

end Tinker

/- Plain mathematics: parts of patches, and the smallest good one. -/
set_option linter.unusedVariables false
set_option linter.unusedSimpArgs false
namespace Tinker

/-- All parts of a patch, as they are built. -/
def ptL (xs : List E) : List (List E) := xs.foldl (fun l e => l ++ l.map fun z => z ++ [e]) [[]]
theorem ptL_snoc (xs : List E) (e : E) : ptL (xs ++ [e]) = ptL xs ++ (ptL xs).map fun z => z ++ [e] := by unfold ptL; rw [List.foldl_append]; rfl
theorem list_snoc {α : Type} {P : List α → Prop} (h0 : P []) (h1 : ∀ l a, P l → P (l ++ [a])) (l : List α) : P l := by
  have key : ∀ (n : Nat) (l : List α), l.length = n → P l := by
    intro n
    induction n with
    | zero => intro l hl; rw [List.eq_nil_of_length_eq_zero hl]; exact h0
    | succ n ih =>
      intro l hl
      have hne : l ≠ [] := by rintro rfl; simp at hl
      rw [← List.dropLast_concat_getLast hne]
      exact h1 _ _ (ih _ (by simp [hl]))
  exact key _ l rfl
theorem ptL_len (xs : List E) : (ptL xs).length = 2 ^ xs.length := by
  induction xs using list_snoc with
  | h0 => rfl
  | h1 l a ih => rw [ptL_snoc, List.length_append, List.length_map, ih, List.length_append, List.length_singleton, Nat.pow_succ]; omega
theorem ptL_mem (xs : List E) : ∀ z, z ∈ ptL xs ↔ z.Sublist xs := by
  induction xs using list_snoc with
  | h0 => intro z; show z ∈ [[]] ↔ _; rw [List.mem_singleton, List.sublist_nil]
  | h1 l a ih =>
    intro z
    rw [ptL_snoc, List.mem_append, List.mem_map, List.sublist_append_iff]
    constructor
    · rintro (h | ⟨y, hy, rfl⟩)
      · exact ⟨z, [], by simp, (ih z).1 h, by simp⟩
      · exact ⟨y, [a], rfl, (ih y).1 hy, List.Sublist.refl _⟩
    · rintro ⟨y, t, rfl, hy, ht⟩
      cases t with
      | nil => left; rw [List.append_nil]; exact (ih y).2 hy
      | cons b t =>
        right
        have hl := ht.length_le
        have : t = [] := List.eq_nil_of_length_eq_zero (by rw [List.length_cons, List.length_singleton] at hl; omega)
        subst this
        have := List.singleton_sublist.1 ht
        rw [List.mem_singleton] at this
        subst this
        exact ⟨y, (ih y).2 hy, rfl⟩
theorem ptL_nodup (xs : List E) (hd : dist xs) : (ptL xs).Nodup := by
  induction xs using list_snoc with
  | h0 => simp [ptL]
  | h1 l a ih =>
    have hd' := hd
    unfold dist at hd'
    rw [List.pairwise_append] at hd'
    rw [ptL_snoc, List.nodup_append]
    refine ⟨ih hd'.1, ?_, ?_⟩
    · have h := ih hd'.1
      unfold List.Nodup at h ⊢
      rw [List.pairwise_map]
      exact h.imp fun hne he => hne (List.append_cancel_right he)
    · intro z hz y hy e
      subst e
      obtain ⟨x, hx, rfl⟩ := List.mem_map.1 hy
      have h1 := ((ptL_mem l _).1 hz).subset (a := a) (by simp)
      have := hd'.2.2 a h1 a (by simp)
      omega
theorem sub_dist {z xs : List E} (h : z.Sublist xs) (hd : dist xs) : dist z := List.Pairwise.sublist h hd
/-- A part comes before another one. -/
def befE (z y : List E) : Bool := decide (z.length < y.length) || (z.length == y.length && befB (pl z) (pl y))
theorem befE_irr (z : List E) : befE z z = false := by
  unfold befE
  have h : befB (pl z) (pl z) = false := by
    cases h : befB (pl z) (pl z)
    · rfl
    · exact absurd h (befB_asym h)
  rw [h]
  simp
theorem befE_iff {z y : List E} : befE z y = true ↔ z.length < y.length ∨ (z.length = y.length ∧ befB (pl z) (pl y) = true) := by
  unfold befE
  simp
theorem befE_trans {a b c : List E} (h1 : befE a b = true) (h2 : befE b c = true) : befE a c = true := by
  rw [befE_iff] at h1 h2 ⊢
  rcases h1 with h1 | ⟨h1, h1'⟩ <;> rcases h2 with h2 | ⟨h2, h2'⟩
  · left; omega
  · left; omega
  · left; omega
  · right; exact ⟨by omega, befB_trans h1' h2'⟩
theorem befE_asym {a b : List E} (h1 : befE a b = true) : ¬ befE b a = true := fun h2 => by
  have := befE_trans h1 h2
  rw [befE_irr] at this
  cases this
/-- Neither before nor behind: the same places. -/
theorem befE_none {z y : List E} (h1 : befE z y = false) (h2 : befE y z = false) : pl z = pl y := by
  have hl : z.length = y.length := by
    have a1 : ¬ befE z y = true := by simp [h1]
    have a2 : ¬ befE y z = true := by simp [h2]
    rw [befE_iff] at a1 a2
    omega
  by_cases h : pl z = pl y
  · exact h
  · exfalso
    rcases befB_total h with h3 | h3
    · have := befE_iff.2 (.inr ⟨hl, h3⟩); rw [h1] at this; cases this
    · have := befE_iff.2 (.inr ⟨hl.symm, h3⟩); rw [h2] at this; cases this
theorem at_inj {xs : List E} (hd : dist xs) {a b : E} (ha : a ∈ xs) (hb : b ∈ xs) (h : a.at_ = b.at_) : a = b := by
  have h1 := atX_mem hd ha
  have h2 := atX_mem hd hb
  rw [h] at h1
  rw [h1] at h2
  injection h2 with h2
  cases a; cases b
  simp_all
theorem pl_inj {xs : List E} (hd : dist xs) : ∀ {z y : List E}, (∀ e ∈ z, e ∈ xs) → (∀ e ∈ y, e ∈ xs) → pl z = pl y → z = y
  | [], [], _, _, _ => rfl
  | [], _ :: _, _, _, h => by simp [pl] at h
  | _ :: _, [], _, _, h => by simp [pl] at h
  | a :: z, b :: y, hz, hy, h => by
    have h' : a.at_ :: pl z = b.at_ :: pl y := h
    injection h' with h1 h2
    rw [at_inj hd (hz a (by simp)) (hy b (by simp)) h1, pl_inj hd (fun e he => hz e (List.mem_cons_of_mem _ he)) (fun e he => hy e (List.mem_cons_of_mem _ he)) h2]
theorem befE_total {xs z y : List E} (hd : dist xs) (hz : z.Sublist xs) (hy : y.Sublist xs) (hne : z ≠ y) : befE z y = true ∨ befE y z = true := by
  cases h1 : befE z y
  · cases h2 : befE y z
    · exact absurd (pl_inj hd (fun e he => hz.subset he) (fun e he => hy.subset he) (befE_none h1 h2)) hne
    · exact .inr rfl
  · exact .inl rfl

/-- The smallest good part, as the document's side goes through them. -/
def smF (g : List E → Bool) (l : List (List E)) : Option (List E) := l.foldl (fun o z => if g z then (match o with | none => some z | some y => if befE z y then some z else o) else o) none
theorem smF_snoc (g : List E → Bool) (l : List (List E)) (z : List E) : smF g (l ++ [z]) = if g z then (match smF g l with | none => some z | some y => if befE z y then some z else smF g l) else smF g l := by unfold smF; rw [List.foldl_append]; rfl
theorem smF_spec (g : List E → Bool) (l : List (List E)) : (smF g l = none ∧ ∀ z ∈ l, g z = false) ∨ ∃ z, smF g l = some z ∧ z ∈ l ∧ g z = true ∧ ∀ y ∈ l, g y = true → befE y z = false := by
  induction l using list_snoc with
  | h0 => left; exact ⟨rfl, fun z hz => by simp at hz⟩
  | h1 l a ih =>
    rw [smF_snoc]
    cases hg : g a
    · rw [if_neg (by simp)]
      rcases ih with ⟨h1, h2⟩ | ⟨z, h1, h2, h3, h4⟩
      · left
        refine ⟨h1, fun z hz => ?_⟩
        rcases List.mem_append.1 hz with h | h
        · exact h2 z h
        · rw [List.mem_singleton.1 h]; exact hg
      · right
        refine ⟨z, h1, List.mem_append_left _ h2, h3, fun y hy hgy => ?_⟩
        rcases List.mem_append.1 hy with h | h
        · exact h4 y h hgy
        · rw [List.mem_singleton.1 h, hg] at hgy; cases hgy
    · rw [if_pos rfl]
      right
      rcases ih with ⟨h1, h2⟩ | ⟨z, h1, h2, h3, h4⟩
      · rw [h1]
        refine ⟨a, rfl, List.mem_append_right _ (by simp), hg, fun y hy hgy => ?_⟩
        rcases List.mem_append.1 hy with h | h
        · rw [h2 y h] at hgy; cases hgy
        · rw [List.mem_singleton.1 h]; exact befE_irr a
      · rw [h1]
        show ∃ z', (if befE a z = true then some a else some z) = some z' ∧ _
        cases hb : befE a z
        · refine ⟨z, rfl, List.mem_append_left _ h2, h3, fun y hy hgy => ?_⟩
          rcases List.mem_append.1 hy with h | h
          · exact h4 y h hgy
          · rw [List.mem_singleton.1 h]; exact hb
        · refine ⟨a, rfl, List.mem_append_right _ (by simp), hg, fun y hy hgy => ?_⟩
          rcases List.mem_append.1 hy with h | h
          · cases hya : befE y a
            · rfl
            · have := befE_trans hya hb
              rw [h4 y h hgy] at this
              cases this
          · rw [List.mem_singleton.1 h]; exact befE_irr a
/-- The first good one of a sorted list is the smallest one. -/
theorem find_smF {g : List E → Bool} {xs : List E} (hd : dist xs) {l : List (List E)} (hp : ∀ z, z ∈ l ↔ z ∈ ptL xs) (hs : l.Pairwise fun a b => befE b a = false) : l.find? g = smF g (ptL xs) := by
  rcases smF_spec g (ptL xs) with ⟨h1, h2⟩ | ⟨z, h1, h2, h3, h4⟩
  · rw [h1, List.find?_eq_none]
    intro y hy
    rw [h2 y ((hp y).1 hy)]
    simp
  · rw [h1]
    cases hf : l.find? g with
    | none =>
      rw [List.find?_eq_none] at hf
      exact absurd h3 (hf z ((hp z).2 h2))
    | some y =>
      have hgy := List.find?_some hf
      obtain ⟨_, u1, u2, hl, has⟩ := List.find?_eq_some_iff_append.1 hf
      have hyl : y ∈ l := by rw [hl]; simp
      have hyz := h4 y ((hp y).1 hyl) hgy
      congr 1
      by_cases e : y = z
      · exact e
      · exfalso
        have hz : z ∈ l := (hp z).2 h2
        rw [hl] at hz
        rcases List.mem_append.1 hz with h | h
        · have := has z h; rw [h3] at this; cases this
        · rcases List.mem_cons.1 h with h | h
          · exact e h.symm
          · rw [hl, List.pairwise_append] at hs
            have hzy := (List.pairwise_cons.1 hs.2.1).1 z h
            rcases befE_total hd ((ptL_mem xs y).1 ((hp y).1 hyl)) ((ptL_mem xs z).1 h2) e with h5 | h5
            · rw [hyz] at h5; cases h5
            · rw [hzy] at h5; cases h5
/-- The smallest good part of a patch. -/
def smO (g : List E → Bool) (xs : List E) : Option (List E) := smF (g) (ptL xs)
theorem smO_none {g : List E → Bool} {xs : List E} (h : smO g xs = none) : ∀ z, z.Sublist xs → g z = false := by
  intro z hz
  rcases smF_spec (g) (ptL xs) with ⟨h1, h2⟩ | ⟨y, h1, _⟩
  · exact h2 z ((ptL_mem xs z).2 hz)
  · unfold smO at h; rw [h1] at h; cases h
theorem smO_some {g : List E → Bool} {xs z : List E} (h : smO g xs = some z) : z.Sublist xs ∧ g z = true ∧ ∀ y, y.Sublist xs → g y = true → befE y z = false := by
  rcases smF_spec (g) (ptL xs) with ⟨h1, h2⟩ | ⟨y, h1, h2, h3, h4⟩
  · unfold smO at h; rw [h1] at h; cases h
  · unfold smO at h; rw [h1] at h
    injection h with h
    subst h
    exact ⟨(ptL_mem xs _).1 h2, h3, fun x hx hg => h4 x ((ptL_mem xs x).2 hx) hg⟩
theorem smO_le {g : List E → Bool} {xs z y : List E} (h : smO g xs = some z) (hy : y.Sublist xs) (hg : g y = true) : z.length ≤ y.length := by
  have := (smO_some h).2.2 y hy hg
  have h2 : ¬ befE y z = true := by simp [this]
  rw [befE_iff] at h2
  omega
/-- Whether a patch is minimal, as the document says it. -/
def mnB (g : List E → Bool) (xs : List E) : Bool := g xs && (ptL xs).all fun z => !(decide (z.length < xs.length) && g z)
theorem mn_iff {g : List E → Bool} {xs : List E} : mnB g xs = true ↔ g xs = true ∧ ∀ z, z.Sublist xs → z.length < xs.length → g z = false := by
  unfold mnB
  rw [Bool.and_eq_true, List.all_eq_true]
  constructor
  · rintro ⟨h1, h2⟩
    refine ⟨h1, fun z hz hl => ?_⟩
    have := h2 z ((ptL_mem xs z).2 hz)
    rw [show decide (z.length < xs.length) = true from decide_eq_true hl, Bool.true_and] at this
    simpa using this
  · rintro ⟨h1, h2⟩
    refine ⟨h1, fun z hz => ?_⟩
    by_cases hl : z.length < xs.length
    · rw [h2 z ((ptL_mem xs z).1 hz) hl]; simp
    · rw [show decide (z.length < xs.length) = false from decide_eq_false hl]; rfl
/-- Whether a patch is minimal, as the code finds it. -/
def mnC (g : List E → Bool) (xs : List E) : Bool := match smO g xs with | none => false | some z => z.length == xs.length
theorem mn_eq (g : List E → Bool) (xs : List E) : mnC g xs = mnB g xs := by
  rw [Bool.eq_iff_iff, mn_iff]
  unfold mnC
  cases h : smO g xs with
  | none =>
    have := smO_none h xs (List.Sublist.refl _)
    simp [this]
  | some z =>
    obtain ⟨h1, h2, h3⟩ := smO_some h
    have hle := h1.length_le
    constructor
    · intro he
      have he2 : z.length = xs.length := by simpa using he
      have e := h1.eq_of_length he2
      subst e
      refine ⟨h2, fun y hy hl => ?_⟩
      cases hg : g y
      · rfl
      · have := smO_le h hy hg; omega
    · rintro ⟨g1, g2⟩
      show (z.length == xs.length) = true
      by_cases hl : z.length < xs.length
      · have := g2 z h1 hl; rw [h2] at this; cases this
      · have : z.length = xs.length := by omega
        simp [this]
/-- The smallest good part is minimal. -/
theorem sm_min {g : List E → Bool} {xs z : List E} (h : smO g xs = some z) : mnB g z = true := by
  obtain ⟨h1, h2, h3⟩ := smO_some h
  rw [mn_iff]
  refine ⟨h2, fun y hy hl => ?_⟩
  cases hg : g y
  · rfl
  · have := smO_le h (hy.trans h1) hg; omega

end Tinker
