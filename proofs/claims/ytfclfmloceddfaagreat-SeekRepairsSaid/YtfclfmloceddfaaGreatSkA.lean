/- Several texts in one. -/
import Derived.Test.YtfclfmloceddfaaGreatEdO
import Derived.Test.YtfclfmloceddfaaGreatLng
import Derived.Test.YtfclfmloceddfaaGreatLns
/- Plain mathematics: all lines, templates, candidates. -/
set_option linter.unusedVariables false
set_option linter.unusedSimpArgs false
namespace Go.Proofs.YtfclfmloceddfaaGreat
open Go.RowKit Tinker

/-- Lines in ascending order, field by field. -/
def ltL (l m : L) : Bool := decide (l.op < m.op) || (l.op == m.op && (decide (l.to < m.to) || (l.to == m.to && (decide (l.a < m.a) || (l.a == m.a && decide (l.b < m.b))))))
theorem ltL_iff {l m : L} : ltL l m = true ↔ l.op < m.op ∨ (l.op = m.op ∧ (l.to < m.to ∨ (l.to = m.to ∧ (l.a < m.a ∨ (l.a = m.a ∧ l.b < m.b))))) := by
  unfold ltL
  simp [Bool.or_eq_true, Bool.and_eq_true]
theorem ltL_trans {a b c : L} (h1 : ltL a b = true) (h2 : ltL b c = true) : ltL a c = true := by
  rw [ltL_iff] at *
  omega
theorem ltL_irr (a : L) : ltL a a = false := by
  cases h : ltL a a
  · rfl
  · rw [ltL_iff] at h; omega
theorem ltL_asym {a b : L} (h1 : ltL a b = true) : ltL b a = false := by
  cases h : ltL b a
  · rfl
  · rw [ltL_iff] at h h1; omega
theorem ltL_total {a b : L} (h1 : ltL a b = false) (h2 : ltL b a = false) : a = b := by
  have n1 : ¬ ltL a b = true := by rw [h1]; simp
  have n2 : ¬ ltL b a = true := by rw [h2]; simp
  rw [ltL_iff] at n1 n2
  cases a; cases b
  simp only [L.mk.injEq] at *
  omega
/-- A range of numbers. -/
def rgI (lo : Int) (n : Nat) : List Int := (List.range n).map fun k : Nat => lo + (k : Int)
theorem rgI_mem {lo : Int} {n : Nat} {x : Int} : x ∈ rgI lo n ↔ lo ≤ x ∧ x < lo + n := by
  unfold rgI
  rw [List.mem_map]
  constructor
  · rintro ⟨k, hk, rfl⟩
    rw [List.mem_range] at hk
    omega
  · rintro ⟨h1, h2⟩
    exact ⟨(x - lo).toNat, by rw [List.mem_range]; omega, by omega⟩
theorem rgI_succ (lo : Int) (n : Nat) : rgI lo (n + 1) = rgI lo n ++ [lo + (n : Int)] := by unfold rgI; rw [List.range_succ, List.map_append]; rfl
theorem rgI_pair (lo : Int) (n : Nat) : (rgI lo n).Pairwise (· < ·) := by
  unfold rgI
  rw [List.pairwise_map]
  refine List.pairwise_lt_range.imp fun h => ?_
  omega
/-- All lines with an operation, a place and a first number; with an operation and a place; with an operation; all. -/
def lnB (op tq a : Int) : List L := (rgI 0 4).map fun b => ⟨op, tq, a, b⟩
def lnA (op tq : Int) : List L := ((rgI (-9) 19).flatMap fun a => lnB op tq a).filter isLn
def lnT (op : Int) : List L := (rgI 0 9).flatMap fun tq => lnA op tq
def allL : List L := (rgI 0 8).flatMap lnT
theorem lnA_mem {op tq : Int} {l : L} : l ∈ lnA op tq ↔ l.op = op ∧ l.to = tq ∧ (-9 ≤ l.a ∧ l.a ≤ 9) ∧ (0 ≤ l.b ∧ l.b ≤ 3) ∧ isLn l = true := by
  unfold lnA lnB
  rw [List.mem_filter, List.mem_flatMap]
  constructor
  · rintro ⟨⟨a, ha, h⟩, hl⟩
    rw [List.mem_map] at h
    obtain ⟨b, hb, rfl⟩ := h
    rw [rgI_mem] at ha hb
    exact ⟨rfl, rfl, ⟨ha.1, by have := ha.2; dsimp only; omega⟩, ⟨hb.1, by have := hb.2; dsimp only; omega⟩, hl⟩
  · rintro ⟨h1, h2, h3, h4, hl⟩
    refine ⟨⟨l.a, rgI_mem.2 ⟨h3.1, by omega⟩, List.mem_map.2 ⟨l.b, rgI_mem.2 ⟨h4.1, by omega⟩, ?_⟩⟩, hl⟩
    subst h1 h2
    rfl
/-- What is known of a valid line. -/
theorem isLn_bd {l : L} (h : isLn l = true) : (0 ≤ l.op ∧ l.op ≤ 7) ∧ (0 ≤ l.to ∧ l.to ≤ 8) ∧ (-9 ≤ l.a ∧ l.a ≤ 9) ∧ (0 ≤ l.b ∧ l.b ≤ 3) := by
  have h0 := isLn_op h
  refine ⟨h0, ?_⟩
  have c : l.op = 0 ∨ l.op = 1 ∨ l.op = 2 ∨ (3 ≤ l.op ∧ l.op ≤ 6) ∨ l.op = 7 := by omega
  obtain ⟨op, tq, a, b⟩ := l
  dsimp only at *
  rcases c with rfl | rfl | rfl | ⟨c1, c2⟩ | rfl
  · rw [isLn_0] at h; simp at h; omega
  · rw [isLn_1] at h; simp [isReg, btw] at h; omega
  · rw [isLn_2] at h; simp [isReg, btw] at h; omega
  · rw [isLn_36 op tq a b c1 c2] at h; simp [isReg, btw] at h; omega
  · rw [isLn_7] at h; simp [isReg, btw] at h; omega
theorem allL_mem {l : L} : l ∈ allL ↔ isLn l = true := by
  unfold allL lnT
  rw [List.mem_flatMap]
  constructor
  · rintro ⟨op, _, h⟩
    rw [List.mem_flatMap] at h
    obtain ⟨tq, _, h⟩ := h
    exact (lnA_mem.1 h).2.2.2.2
  · intro h
    obtain ⟨h1, h2, h3, h4⟩ := isLn_bd h
    exact ⟨l.op, rgI_mem.2 ⟨h1.1, by omega⟩, List.mem_flatMap.2 ⟨l.to, rgI_mem.2 ⟨h2.1, by omega⟩, lnA_mem.2 ⟨rfl, rfl, h3, h4, h⟩⟩⟩
theorem pair_flat {α β : Type} {R : β → β → Prop} {f : α → List β} {l : List α} (h1 : ∀ a ∈ l, (f a).Pairwise R) (h2 : l.Pairwise fun a b => ∀ x ∈ f a, ∀ y ∈ f b, R x y) : (l.flatMap f).Pairwise R := by
  induction l with
  | nil => exact List.Pairwise.nil
  | cons a r ih =>
    rw [List.flatMap_cons, List.pairwise_append]
    obtain ⟨p1, p2⟩ := List.pairwise_cons.1 h2
    refine ⟨h1 a (by simp), ih (fun b hb => h1 b (List.mem_cons_of_mem _ hb)) p2, fun x hx y hy => ?_⟩
    obtain ⟨b, hb, hy⟩ := List.mem_flatMap.1 hy
    exact p1 b hb x hx y hy
theorem allL_sorted : allL.Pairwise fun a b => ltL a b = true := by
  unfold allL
  refine pair_flat (fun op _ => ?_) ((rgI_pair _ _).imp fun {x y} h a ha b hb => ?_)
  · unfold lnT
    refine pair_flat (fun tq _ => ?_) ((rgI_pair _ _).imp fun {x y} h a ha b hb => ?_)
    · unfold lnA
      refine List.Pairwise.filter _ (pair_flat (fun a _ => ?_) ((rgI_pair _ _).imp fun {x y} h a ha b hb => ?_))
      · unfold lnB
        rw [List.pairwise_map]
        refine (rgI_pair _ _).imp fun {x y} h => ?_
        rw [ltL_iff]
        exact .inr ⟨rfl, .inr ⟨rfl, .inr ⟨rfl, h⟩⟩⟩
      · unfold lnB at ha hb
        obtain ⟨u, _, rfl⟩ := List.mem_map.1 ha
        obtain ⟨v, _, rfl⟩ := List.mem_map.1 hb
        rw [ltL_iff]
        exact .inr ⟨rfl, .inr ⟨rfl, .inl h⟩⟩
    · obtain ⟨a1, a2, _⟩ := lnA_mem.1 ha
      obtain ⟨b1, b2, _⟩ := lnA_mem.1 hb
      rw [ltL_iff]
      omega
  · unfold lnT at ha hb
    obtain ⟨u, _, ha⟩ := List.mem_flatMap.1 ha
    obtain ⟨v, _, hb⟩ := List.mem_flatMap.1 hb
    obtain ⟨a1, _⟩ := lnA_mem.1 ha
    obtain ⟨b1, _⟩ := lnA_mem.1 hb
    rw [ltL_iff]
    omega
/-- Strictly ascending lists with the same members are equal. -/
theorem sorted_ext : ∀ {l m : List L}, (l.Pairwise fun a b => ltL a b = true) → (m.Pairwise fun a b => ltL a b = true) → (∀ x, x ∈ l ↔ x ∈ m) → l = m
  | [], [], _, _, _ => rfl
  | [], y :: m, _, _, h => absurd ((h y).2 (by simp)) (by simp)
  | x :: l, [], _, _, h => absurd ((h x).1 (by simp)) (by simp)
  | x :: l, y :: m, h1, h2, h => by
    obtain ⟨p1, q1⟩ := List.pairwise_cons.1 h1
    obtain ⟨p2, q2⟩ := List.pairwise_cons.1 h2
    have e : x = y := by
      rcases List.mem_cons.1 ((h x).1 (by simp)) with e | e
      · exact e
      · rcases List.mem_cons.1 ((h y).2 (by simp)) with e2 | e2
        · exact e2.symm
        · have := ltL_asym (p1 y e2)
          rw [p2 x e] at this
          cases this
    subst e
    congr 1
    refine sorted_ext q1 q2 fun z => ?_
    constructor
    · intro hz
      rcases List.mem_cons.1 ((h z).1 (List.mem_cons_of_mem _ hz)) with e | e
      · subst e
        have := p1 z hz
        rw [ltL_irr] at this
        cases this
      · exact e
    · intro hz
      rcases List.mem_cons.1 ((h z).2 (List.mem_cons_of_mem _ hz)) with e | e
      · subst e
        have := p2 z hz
        rw [ltL_irr] at this
        cases this
      · exact e
/-- Whether a list has a line. -/
def hasL (ps : List L) (l : L) : Bool := ps.any fun m => eqL m l
theorem hasL_iff {ps : List L} {l : L} : hasL ps l = true ↔ l ∈ ps := by
  unfold hasL
  rw [List.any_eq_true]
  constructor
  · rintro ⟨m, hm, e⟩
    rw [eqL_iff] at e
    subst e
    exact hm
  · intro h
    exact ⟨l, h, eqL_self l⟩
/-- The valid lines of a list that differ from a line, in ascending order, each once. -/
def othL (ps : List L) (l : L) : List L := allL.filter fun m => hasL ps m && !eqL m l
theorem eqL_false {l m : L} (h : l ≠ m) : eqL l m = false := by
  cases e : eqL l m
  · rfl
  · exact absurd (eqL_iff.1 e) h
theorem othL_mem {ps : List L} {l m : L} : m ∈ othL ps l ↔ m ∈ ps ∧ isLn m = true ∧ m ≠ l := by
  unfold othL
  rw [List.mem_filter, allL_mem, Bool.and_eq_true, hasL_iff]
  constructor
  · rintro ⟨h1, h2, h3⟩
    refine ⟨h2, h1, fun e => ?_⟩
    rw [e, eqL_self] at h3
    cases h3
  · rintro ⟨h1, h2, h3⟩
    exact ⟨h2, h1, by rw [eqL_false h3]; rfl⟩
theorem othL_sorted (ps : List L) (l : L) : (othL ps l).Pairwise fun a b => ltL a b = true := allL_sorted.filter _
/-- Without neighbours that are the same. -/
def cmpct : List L → List L
  | [] => []
  | [x] => [x]
  | x :: y :: r => if eqL x y then cmpct (y :: r) else x :: cmpct (y :: r)
theorem cmpct_mem : ∀ {l : List L} {x : L}, x ∈ cmpct l ↔ x ∈ l
  | [], x => Iff.rfl
  | [y], x => Iff.rfl
  | y :: z :: r, x => by
    rw [cmpct]
    split
    · rename_i h
      rw [cmpct_mem, eqL_iff.1 h]
      simp
    · rw [List.mem_cons, cmpct_mem, List.mem_cons (b := y)]
theorem cmpct_sorted : ∀ {l : List L}, (l.Pairwise fun a b => ltL b a = false) → (cmpct l).Pairwise fun a b => ltL a b = true
  | [], _ => List.Pairwise.nil
  | [y], _ => List.pairwise_singleton _ _
  | y :: z :: r, h => by
    obtain ⟨p, q⟩ := List.pairwise_cons.1 h
    rw [cmpct]
    split
    · exact cmpct_sorted q
    · rename_i hne
      rw [List.pairwise_cons]
      refine ⟨fun x hx => ?_, cmpct_sorted q⟩
      have hx := cmpct_mem.1 hx
      have h1 := p x hx
      cases h2 : ltL y x
      · exfalso
        have e := ltL_total h2 h1
        subst e
        rcases List.mem_cons.1 hx with e | e
        · subst e; rw [eqL_self] at hne; exact hne rfl
        · have h3 := (List.pairwise_cons.1 q).1 y e
          have h4 := p z (by simp)
          have := ltL_total h3 h4
          subst this
          rw [eqL_self] at hne
          exact hne rfl
      · rfl
/-- What sorting and compacting make of what is left. -/
theorem oth_of {ps sp : List L} {l : L} (hp : sp.Perm (ps.filter fun m => !(eqL m l || !isLn m))) (hs : sp.Pairwise fun a b => ltL b a = false) : cmpct sp = othL ps l := by
  refine sorted_ext (cmpct_sorted hs) (othL_sorted ps l) fun x => ?_
  rw [cmpct_mem, hp.mem_iff, List.mem_filter, othL_mem]
  constructor
  · rintro ⟨h1, h2⟩
    rw [Bool.not_eq_true', Bool.or_eq_false_iff] at h2
    exact ⟨h1, by simpa using h2.2, fun e => by rw [e, eqL_self] at h2; cases h2.1⟩
  · rintro ⟨h1, h2, h3⟩
    refine ⟨h1, ?_⟩
    rw [eqL_false h3, h2]
    rfl

/-- Whether an operation makes a number of two registers. -/
def mixB (op : Int) : Bool := decide (3 ≤ op) && decide (op ≤ 6)
/-- Whether a valid line is a template of another valid one. -/
def nearB (l m : L) : Bool :=
  if eqL l m || l.op == 0 then false
  else if m.op == 0 then true
  else if m.op != l.op then mixB l.op && (mixB m.op && dsN l m == 1)
  else if l.to == m.to && (decide (3 ≤ l.op) && (l.a == m.b && l.b == m.a)) then true
  else if dsN l m != 1 then false
  else if l.op == 1 && l.a != m.a then l.a - m.a == 1 || m.a - l.a == 1
  else if l.op == 7 && l.to != m.to then l.to - m.to == 1 || m.to - l.to == 1
  else true
/-- The templates of a line. -/
def tmpl (l : L) : List L := allL.filter (nearB l)
theorem tmpl_mem {l m : L} : m ∈ tmpl l ↔ isLn m = true ∧ nearB l m = true := by unfold tmpl; rw [List.mem_filter, allL_mem]
theorem near_self (l : L) : nearB l l = false := by unfold nearB; rw [eqL_self]; rfl
theorem near_ne {l m : L} (h : nearB l m = true) : m ≠ l := fun e => by rw [e, near_self] at h; cases h
/-- What the code makes of a line ahead of sorting. -/
def two (l : L) : Bool := decide (3 ≤ l.op) && decide (l.op ≤ 7)
def numsL (l : L) : List L := if l.op = 1 then [⟨l.op, l.to, l.a - 1, l.b⟩, ⟨l.op, l.to, l.a + 1, l.b⟩] else if l.op = 7 then [⟨l.op, l.to - 1, l.a, l.b⟩, ⟨l.op, l.to + 1, l.a, l.b⟩] else []
def regsTo (l : L) (r : Int) : List L := (if l.op = 7 then [] else [⟨l.op, r, l.a, l.b⟩]) ++ ((if l.op = 2 ∨ two l = true then [⟨l.op, l.to, r, l.b⟩] else []) ++ (if two l = true then [⟨l.op, l.to, l.a, r⟩] else []))
def regsL (l : L) : List L := (rgI 0 4).flatMap (regsTo l)
def opsL (l : L) : List L := if mixB l.op = true then [⟨3, l.to, l.a, l.b⟩, ⟨4, l.to, l.a, l.b⟩, ⟨5, l.to, l.a, l.b⟩, ⟨6, l.to, l.a, l.b⟩] else []
def swpL (l : L) : List L := if two l = true then [⟨l.op, l.to, l.b, l.a⟩] else []
def rawL (l : L) : List L := [⟨0, 0, 0, 0⟩] ++ numsL l ++ regsL l ++ opsL l ++ swpL l
theorem b1_eq (b : Bool) : b1 b = 1 ∨ b1 b = 0 := by cases b <;> simp [b1]
/-- In which field lines differ. -/
theorem ds_one {l m : L} (h : dsN l m = 1) : (l.op ≠ m.op ∧ l.to = m.to ∧ l.a = m.a ∧ l.b = m.b) ∨ (l.op = m.op ∧ l.to ≠ m.to ∧ l.a = m.a ∧ l.b = m.b) ∨ (l.op = m.op ∧ l.to = m.to ∧ l.a ≠ m.a ∧ l.b = m.b) ∨ (l.op = m.op ∧ l.to = m.to ∧ l.a = m.a ∧ l.b ≠ m.b) := by
  unfold dsN b1 at h
  by_cases e1 : l.op = m.op <;> by_cases e2 : l.to = m.to <;> by_cases e3 : l.a = m.a <;> by_cases e4 : l.b = m.b <;> simp [e1, e2, e3, e4] at h ⊢
theorem regs_mem {l m : L} : m ∈ regsL l ↔ ∃ r, (0 ≤ r ∧ r ≤ 3) ∧ m ∈ regsTo l r := by
  unfold regsL
  rw [List.mem_flatMap]
  constructor
  · rintro ⟨r, hr, h⟩
    rw [rgI_mem] at hr
    exact ⟨r, by omega, h⟩
  · rintro ⟨r, hr, h⟩
    exact ⟨r, rgI_mem.2 (by omega), h⟩

end Go.Proofs.YtfclfmloceddfaaGreat

/- Plain mathematics: the code's templates are the document's. -/
set_option linter.unusedVariables false
set_option linter.unusedSimpArgs false
namespace Go.Proofs.YtfclfmloceddfaaGreat
open Go.RowKit Tinker

theorem isLn_0' {l : L} (h : isLn l = true) (h0 : l.op = 0) : l = ⟨0, 0, 0, 0⟩ := by
  obtain ⟨op, tq, a, b⟩ := l
  dsimp only at h0
  subst h0
  rw [isLn_0] at h
  simp at h
  obtain ⟨rfl, rfl, rfl⟩ := h
  rfl
theorem isLn_b12 {l : L} (h : isLn l = true) (h0 : l.op = 1 ∨ l.op = 2) : l.b = 0 := by
  obtain ⟨op, tq, a, b⟩ := l
  dsimp only at h0 ⊢
  rcases h0 with rfl | rfl
  · rw [isLn_1] at h; simp at h; exact h.2.2
  · rw [isLn_2] at h; simp at h; exact h.2.2
theorem raw_none (l : L) : (⟨0, 0, 0, 0⟩ : L) ∈ rawL l := by unfold rawL; simp
theorem raw_nums {l m : L} (h : m ∈ numsL l) : m ∈ rawL l := by unfold rawL; simp [h]
theorem raw_regs {l m : L} (h : m ∈ regsL l) : m ∈ rawL l := by unfold rawL; simp [h]
theorem raw_ops {l m : L} (h : m ∈ opsL l) : m ∈ rawL l := by unfold rawL; simp [h]
theorem raw_swp {l m : L} (h : m ∈ swpL l) : m ∈ rawL l := by unfold rawL; simp [h]
theorem L_ext {l m : L} (h1 : l.op = m.op) (h2 : l.to = m.to) (h3 : l.a = m.a) (h4 : l.b = m.b) : l = m := by cases l; cases m; simp_all
/-- What is a template is among what the code makes. -/
theorem raw_of_near {l m : L} (hl : isLn l = true) (hm : isLn m = true) (h : nearB l m = true) : m ∈ rawL l := by
  have bl := isLn_bd hl
  have bm := isLn_bd hm
  unfold nearB at h
  split at h
  · cases h
  rename_i n1
  simp only [Bool.or_eq_true, not_or, beq_iff_eq] at n1
  obtain ⟨n1, n2⟩ := n1
  split at h
  · rename_i h0
    rw [isLn_0' hm (by simpa using h0)]
    exact raw_none l
  rename_i n3
  simp only [beq_iff_eq] at n3
  split at h
  · rename_i h4
    simp only [bne_iff_ne, ne_eq] at h4
    rw [Bool.and_eq_true, Bool.and_eq_true, beq_iff_eq] at h
    obtain ⟨m1, m2, m3⟩ := h
    rcases ds_one m3 with ⟨d1, d2, d3, d4⟩ | ⟨d1, _⟩ | ⟨d1, _⟩ | ⟨d1, _⟩
    · refine raw_ops ?_
      unfold opsL
      rw [if_pos m1]
      unfold mixB at m2
      rw [Bool.and_eq_true, decide_eq_true_eq, decide_eq_true_eq] at m2
      have c : m.op = 3 ∨ m.op = 4 ∨ m.op = 5 ∨ m.op = 6 := by omega
      have key : m = ⟨m.op, l.to, l.a, l.b⟩ := L_ext rfl d2.symm d3.symm d4.symm
      rw [key]
      rcases c with c | c | c | c <;> rw [c] <;> simp
    · exact absurd d1.symm h4
    · exact absurd d1.symm h4
    · exact absurd d1.symm h4
  rename_i h4
  have e4 : m.op = l.op := by simpa using h4
  split at h
  · rename_i h5
    simp only [Bool.and_eq_true, beq_iff_eq, decide_eq_true_eq] at h5
    obtain ⟨h5, h6, h7, h8⟩ := h5
    refine raw_swp ?_
    unfold swpL
    rw [if_pos (by unfold two; simp; omega)]
    rw [List.mem_singleton]
    exact L_ext e4 h5.symm h8.symm h7.symm
  rename_i h5
  split at h
  · cases h
  rename_i h6
  have h6 : dsN l m = 1 := by simpa using h6
  rcases ds_one h6 with ⟨d1, _⟩ | ⟨d1, d2, d3, d4⟩ | ⟨d1, d2, d3, d4⟩ | ⟨d1, d2, d3, d4⟩
  · exact absurd e4.symm d1
  · -- To
    by_cases o7 : l.op = 7
    · have : (l.op == 1 && l.a != m.a) = false := by simp [o7]
      rw [if_neg (by rw [this]; simp)] at h
      rw [if_pos (by simp [o7, d2])] at h
      simp only [Bool.or_eq_true, beq_iff_eq] at h
      refine raw_nums ?_
      unfold numsL
      rw [if_neg (by omega), if_pos o7]
      have key : m = ⟨l.op, m.to, l.a, l.b⟩ := L_ext e4 rfl d3.symm d4.symm
      rw [key]
      rcases h with h | h
      · rw [show m.to = l.to - 1 by omega]; simp
      · rw [show m.to = l.to + 1 by omega]; simp
    · refine raw_regs (regs_mem.2 ⟨m.to, ?_, ?_⟩)
      · exact isLn_to hm (by omega) (by omega)
      · unfold regsTo
        rw [if_neg o7]
        have key : m = ⟨l.op, m.to, l.a, l.b⟩ := L_ext e4 rfl d3.symm d4.symm
        rw [List.mem_append, List.mem_singleton]
        exact .inl key
  · -- A
    by_cases o1 : l.op = 1
    · rw [if_pos (by simp [o1, d3])] at h
      simp only [Bool.or_eq_true, beq_iff_eq] at h
      refine raw_nums ?_
      unfold numsL
      rw [if_pos o1]
      have key : m = ⟨l.op, l.to, m.a, l.b⟩ := L_ext e4 d2.symm rfl d4.symm
      rw [key]
      rcases h with h | h
      · rw [show m.a = l.a - 1 by omega]; simp
      · rw [show m.a = l.a + 1 by omega]; simp
    · refine raw_regs (regs_mem.2 ⟨m.a, ?_, ?_⟩)
      · exact isLn_a hm (by omega)
      · unfold regsTo
        have key : m = ⟨l.op, l.to, m.a, l.b⟩ := L_ext e4 d2.symm rfl d4.symm
        rw [List.mem_append, List.mem_append, if_pos (show l.op = 2 ∨ two l = true by unfold two; simp; omega)]
        exact .inr (.inl (by rw [List.mem_singleton]; exact key))
  · -- B
    have o3 : 3 ≤ l.op := by
      rcases Int.lt_or_le l.op 3 with hlt | hge
      · exfalso
        have c : l.op = 1 ∨ l.op = 2 := by omega
        have b1 := isLn_b12 hl c
        have b2 := isLn_b12 hm (by omega)
        omega
      · exact hge
    refine raw_regs (regs_mem.2 ⟨m.b, ?_, ?_⟩)
    · exact isLn_b hm (by omega)
    · unfold regsTo
      have key : m = ⟨l.op, l.to, l.a, m.b⟩ := L_ext e4 d2.symm d3.symm rfl
      rw [List.mem_append, List.mem_append]
      refine .inr (.inr ?_)
      rw [if_pos (by unfold two; simp; omega), List.mem_singleton]
      exact key
theorem b1_ne {x y : Int} (h : x ≠ y) : b1 (x != y) = 1 := by rw [show (x != y) = true by simpa using h]; rfl
theorem b1_self (x : Int) : b1 (x != x) = 0 := by simp [b1]
theorem near_of {l m : L} (h1 : l ≠ m) (h2 : l.op ≠ 0) (h3 : m.op = l.op) (h4 : dsN l m = 1) (h5 : l.op = 1 → l.a ≠ m.a → l.a - m.a = 1 ∨ m.a - l.a = 1) (h6 : l.op = 7 → l.to ≠ m.to → l.to - m.to = 1 ∨ m.to - l.to = 1) : nearB l m = true := by
  unfold nearB
  rw [if_neg (by rw [eqL_false h1]; simpa using h2), if_neg (by rw [h3]; simpa using h2), if_neg (by rw [h3]; simp)]
  split
  · rfl
  rw [if_neg (by rw [h4]; simp)]
  split
  · rename_i h
    simp only [Bool.and_eq_true, beq_iff_eq, bne_iff_ne, ne_eq] at h
    rcases h5 h.1 h.2 with h | h <;> simp [h]
  · split
    · rename_i h
      simp only [Bool.and_eq_true, beq_iff_eq, bne_iff_ne, ne_eq] at h
      rcases h6 h.1 h.2 with h | h <;> simp [h]
    · rfl
/-- What the code makes, as far as it is valid and another line, is a template. -/
theorem near_of_raw {l m : L} (hl : isLn l = true) (hm : isLn m = true) (h0 : l.op ≠ 0) (hne : m ≠ l) (h : m ∈ rawL l) : nearB l m = true := by
  have bl := isLn_bd hl
  have bm := isLn_bd hm
  have hne' : l ≠ m := fun e => hne e.symm
  unfold rawL at h
  simp only [List.mem_append, List.mem_singleton] at h
  rcases h with (((h | h) | h) | h) | h
  · subst h
    unfold nearB
    rw [if_neg (by rw [eqL_false hne']; simpa using h0), if_pos (by rfl)]
  · unfold numsL at h
    split at h
    · rename_i o1
      simp only [List.mem_cons, List.not_mem_nil, or_false] at h
      rcases h with rfl | rfl
      · exact near_of hne' h0 rfl (by unfold dsN; dsimp only; rw [b1_self, b1_self, b1_self, b1_ne (by omega)]; rfl) (fun _ _ => .inl (by dsimp only; omega)) (fun h => by omega)
      · exact near_of hne' h0 rfl (by unfold dsN; dsimp only; rw [b1_self, b1_self, b1_self, b1_ne (by omega)]; rfl) (fun _ _ => .inr (by dsimp only; omega)) (fun h => by omega)
    · split at h
      · rename_i o7
        simp only [List.mem_cons, List.not_mem_nil, or_false] at h
        rcases h with rfl | rfl
        · exact near_of hne' h0 rfl (by unfold dsN; dsimp only; rw [b1_self, b1_self, b1_self, b1_ne (by omega)]; rfl) (fun h => by omega) (fun _ _ => .inl (by dsimp only; omega))
        · exact near_of hne' h0 rfl (by unfold dsN; dsimp only; rw [b1_self, b1_self, b1_self, b1_ne (by omega)]; rfl) (fun h => by omega) (fun _ _ => .inr (by dsimp only; omega))
      · cases h
  · obtain ⟨r, hr, h⟩ := regs_mem.1 h
    unfold regsTo at h
    simp only [List.mem_append] at h
    rcases h with h | h | h
    · split at h
      · cases h
      · rename_i o7
        rw [List.mem_singleton] at h
        subst h
        have hd : l.to ≠ r := fun e => hne (by rw [← e])
        exact near_of hne' h0 rfl (by unfold dsN; dsimp only; rw [b1_self, b1_self, b1_self, b1_ne hd]; rfl) (fun _ h => absurd rfl h) (fun h => absurd h o7)
    · split at h
      · rename_i o2
        rw [List.mem_singleton] at h
        subst h
        have hd : l.a ≠ r := fun e => hne (by rw [← e])
        have n1 : l.op ≠ 1 := by
          rcases o2 with o2 | o2
          · omega
          · unfold two at o2; simp at o2; omega
        exact near_of hne' h0 rfl (by unfold dsN; dsimp only; rw [b1_self, b1_self, b1_self, b1_ne hd]; rfl) (fun h => absurd h n1) (fun _ h => absurd rfl h)
      · cases h
    · split at h
      · rename_i o2
        rw [List.mem_singleton] at h
        subst h
        have hd : l.b ≠ r := fun e => hne (by rw [← e])
        exact near_of hne' h0 rfl (by unfold dsN; dsimp only; rw [b1_self, b1_self, b1_self, b1_ne hd]; rfl) (fun _ h => absurd rfl h) (fun _ h => absurd rfl h)
      · cases h
  · unfold opsL at h
    split at h
    · rename_i hx
      have key : ∀ op : Int, 3 ≤ op → op ≤ 6 → m = ⟨op, l.to, l.a, l.b⟩ → nearB l m = true := by
        intro op h3 h6 e
        subst e
        have hd : l.op ≠ op := fun e => hne (by rw [← e])
        unfold nearB
        rw [if_neg (by rw [eqL_false hne']; simpa using h0), if_neg (by simp; omega), if_pos (by simp; exact fun e => hd e.symm)]
        have hm2 : mixB op = true := by unfold mixB; simp; omega
        have h1 : dsN l ⟨op, l.to, l.a, l.b⟩ = 1 := by unfold dsN; dsimp only; rw [b1_self, b1_self, b1_self, b1_ne hd]; rfl
        dsimp only
        rw [hx, hm2, h1]
        rfl
      simp only [List.mem_cons, List.not_mem_nil, or_false] at h
      rcases h with h | h | h | h
      · exact key 3 (by omega) (by omega) h
      · exact key 4 (by omega) (by omega) h
      · exact key 5 (by omega) (by omega) h
      · exact key 6 (by omega) (by omega) h
    · cases h
  · unfold swpL at h
    split at h
    · rename_i hx
      rw [List.mem_singleton] at h
      subst h
      unfold nearB
      rw [if_neg (by rw [eqL_false hne']; simpa using h0), if_neg (by simpa using h0), if_neg (by simp), if_pos]
      unfold two at hx
      simp at hx ⊢
      omega
    · cases h
/-- The code's templates are the document's. -/
theorem tmpl_oth {l : L} (hl : isLn l = true) (h0 : l.op ≠ 0) : othL (rawL l) l = tmpl l := by
  refine sorted_ext (othL_sorted _ _) (allL_sorted.filter _) fun m => ?_
  rw [othL_mem]
  show _ ↔ m ∈ tmpl l
  rw [tmpl_mem]
  constructor
  · rintro ⟨h1, h2, h3⟩
    exact ⟨h2, near_of_raw hl h2 h0 h3 h1⟩
  · rintro ⟨h1, h2⟩
    exact ⟨raw_of_near hl h1 h2, h1, near_ne h2⟩
theorem tmpl_none {l : L} (h0 : l.op = 0) : tmpl l = [] := by
  unfold tmpl
  rw [List.filter_eq_nil_iff]
  intro m _ h
  unfold nearB at h
  rw [if_pos (by simp [h0])] at h
  cases h

end Go.Proofs.YtfclfmloceddfaaGreat

/- All lines: contract of the code. -/
set_option linter.unusedVariables false
set_option linter.unusedSimpArgs false
namespace Go.Proofs.YtfclfmloceddfaaGreat
open Go.RowKit Tinker

/-- The cells of a line. -/
def lV (l : L) : Array Value := #[.int .i64 l.op, .int .i64 l.to, .int .i64 l.a, .int .i64 l.b]
theorem lc_sing (l : L) : lc [l] = [.int .i64 l.op, .int .i64 l.to, .int .i64 l.a, .int .i64 l.b] := rfl
theorem cells_newL (W : World) (l : L) : ∀ j u, (lc [l])[j]? = some u → (W.alloc (.cells (lV l) 42)).cell? ((⟨W.heap.size, 0, none⟩ : Addr).add j) = some u := by
  intro j u hu
  rw [lc_sing] at hu
  have e : (⟨W.heap.size, 0, none⟩ : Addr).add j = ⟨W.heap.size, j, none⟩ := by simp [Addr.add]; exact fun h => h.symm
  rw [e]
  exact hp_cell (hp_new rfl) (by unfold lV; rw [List.getElem?_toArray]; exact hu)
/-- A box with a line. -/
theorem boxL_cells {W : World} {B : Nat} {l : L} (h : W.heap[B]? = some (.cells (lV l) 42 (0, 0))) : W.cell? ⟨B, 0, none⟩ = some (.int .i64 l.op) ∧ W.cell? ⟨B, 1, none⟩ = some (.int .i64 l.to) ∧ W.cell? ⟨B, 2, none⟩ = some (.int .i64 l.a) ∧ W.cell? ⟨B, 3, none⟩ = some (.int .i64 l.b) :=
  ⟨hp_cell h (by rfl), hp_cell h (by rfl), hp_cell h (by rfl), hp_cell h (by rfl)⟩
theorem lnB_to (op tq a : Int) (m : Nat) : ((rgI 0 (m + 1)).map fun b => (⟨op, tq, a, b⟩ : L)) = ((rgI 0 m).map fun b => (⟨op, tq, a, b⟩ : L)) ++ [⟨op, tq, a, (m : Int)⟩] := by
  rw [rgI_succ, List.map_append, Int.zero_add]
  rfl
theorem rg_len (lo : Int) (n : Nat) : (rgI lo n).length = n := by unfold rgI; rw [List.length_map, List.length_range]
def lnAto (op tq : Int) (k : Nat) : List L := ((rgI (-9) k).flatMap fun a => lnB op tq a).filter isLn
def lnBto (op tq a : Int) (m : Nat) : List L := ((rgI 0 m).map fun b => (⟨op, tq, a, b⟩ : L)).filter isLn
theorem lnAto_succ (op tq : Int) (k : Nat) : lnAto op tq (k + 1) = lnAto op tq k ++ lnBto op tq (-9 + (k : Int)) 4 := by
  unfold lnAto lnBto
  rw [rgI_succ, List.flatMap_append, List.filter_append]
  congr 1
  try simp [lnB]
theorem lnBto_yes {op tq a : Int} {m : Nat} (h : isLn ⟨op, tq, a, (m : Int)⟩ = true) : lnBto op tq a (m + 1) = lnBto op tq a m ++ [⟨op, tq, a, (m : Int)⟩] := by
  unfold lnBto
  rw [lnB_to, List.filter_append]
  simp [h]
theorem lnBto_no {op tq a : Int} {m : Nat} (h : isLn ⟨op, tq, a, (m : Int)⟩ = false) : lnBto op tq a (m + 1) = lnBto op tq a m := by
  unfold lnBto
  rw [lnB_to, List.filter_append]
  simp [h]
theorem lnBto_len (op tq a : Int) (m : Nat) : (lnBto op tq a m).length ≤ m := by
  unfold lnBto
  refine Nat.le_trans (List.length_filter_le _ _) ?_
  rw [List.length_map, rg_len]
  exact Nat.le_refl _
theorem lnAto_len (op tq : Int) : ∀ k, (lnAto op tq k).length ≤ 4 * k
  | 0 => by simp [lnAto, rgI]
  | k + 1 => by
    rw [lnAto_succ, List.length_append]
    have := lnAto_len op tq k
    have := lnBto_len op tq (-9 + (k : Int)) 4
    omega
/-- An own row of lines grows by one, whose cells lie in a block. -/
theorem lines_snoc {w W1 : World} {v' : Value} {ls : List L} {n : Nat} {l : L} (h : W1.ownsRow w.heap.size 42 4 v' (n + 1) (lc ls ++ lc [l])) : W1.ownsRow w.heap.size 42 4 v' (n + 1) (lc (ls ++ [l])) := by
  rw [lc_append]; exact h

set_option maxRecDepth 100000 in
set_option maxHeartbeats 1000000 in
theorem allOf_any (op tq : Int) (w : World) :
    Calls Tryz.prog 115 #[.int .i64 op, .int .i64 tq] w (GivesLines (lnA op tq) w) := by
  obtain ⟨i0, hi, hz0, hz1, hz2⟩ := info_parts info_line
  go_enter Tryz.func115, Tryz.ntmps115
  go_wp2_with fail
  go_loopw [5, 6] (fun s5 s6 wr => ∃ k : Nat, k ≤ 19 ∧ s6 = .int .i64 (-9 + (k : Int)) ∧ wr.ownsRow w.heap.size 42 4 s5 (lnAto op tq k).length (lc (lnAto op tq k)) ∧ Below w.heap.size w wr) (fun _ s6 _ => (10 - intOf s6).toNat)
  case atStart => exact ⟨0, by omega, rfl, World.ownsRow_nil _ _ _ _, Below.refl _ _⟩
  case round =>
    obtain ⟨k, hk, rfl, hO, hB⟩ := hrel
    by_cases hlt : k < 19
    · obtain ⟨va, vc, rfl⟩ := own_slice hO
      have HS := Lib.hid (lnAto_succ op tq k)
      have hlen := lnAto_len op tq k
      have g1 : -9 + (k : Int) ≤ 9 := by omega
      generalize lnAto op tq k = P at *
      generalize ha : -9 + (k : Int) = av at *
      have HO := Lib.hid hO
      have HB := Lib.hid hB
      clear hO hB
      go_wp2_with fail
      go_loopw [5, 13] (fun s5 s13 wx => ∃ m : Nat, m ≤ 4 ∧ s13 = .int .i64 m ∧ wx.ownsRow w.heap.size 42 4 s5 (P ++ lnBto op tq av m).length (lc (P ++ lnBto op tq av m)) ∧ Below w.heap.size w wx) (fun _ s13 _ => 4 - (intOf s13).toNat)
      case atStart => exact ⟨0, by omega, rfl, by rw [show lnBto op tq av 0 = [] from rfl, List.append_nil]; exact HO.out, HB.out⟩
      case round =>
        clear HO HB
        obtain ⟨m, hm, rfl, hO, hB⟩ := hrel
        by_cases hlm : m < 4
        · have hq := lnBto_len op tq av m
          have hqq : (P ++ lnBto op tq av m).length ≤ 80 := by rw [List.length_append]; omega
          have HNo := Lib.hid (fun hv : isLn ⟨op, tq, av, (m : Int)⟩ = false => (by rw [lnBto_no hv] : P ++ lnBto op tq av (m + 1) = P ++ lnBto op tq av m))
          have HYes := Lib.hid (fun hv : isLn ⟨op, tq, av, (m : Int)⟩ = true => (by rw [lnBto_yes hv, List.append_assoc] : P ++ lnBto op tq av (m + 1) = (P ++ lnBto op tq av m) ++ [⟨op, tq, av, (m : Int)⟩]))
          generalize P ++ lnBto op tq av m = LS at hqq HNo HYes hO
          clear hq
          obtain ⟨va, vc, rfl⟩ := own_slice hO
          have hal : Below wr.heap.size wr (wr.alloc (.cells (lV ⟨op, tq, av, (m : Int)⟩) 42)) := (Below.refl _ _).alloc (Nat.le_refl _) _
          have hbx := hp_new (w := wr) (o := .cells (lV ⟨op, tq, av, (m : Int)⟩) 42) rfl
          obtain ⟨x0, x1, x2, x3⟩ := boxL_cells hbx
          have HX := Lib.hid hbx
          have HO := Lib.hid (own_below hO hal (Nat.le_refl _))
          have HB := Lib.hid (hB.trans (hal.mono hB.size))
          have HV := Lib.hid (fun w => validateLine_any ⟨op, tq, av, (m : Int)⟩ w)
          unfold lv at HV
          clear hO hB hal hbx
          cases hv : isLn ⟨op, tq, av, (m : Int)⟩
          · have HN := Lib.hid (HNo.out hv)
            have HQ := Lib.hid (show vl ⟨op, tq, av, (m : Int)⟩ = 1 by unfold vl; rw [hv]; rfl)
            rw [HQ.out] at HV
            clear hv HQ HX
            unfold lV at HO HB x0 x1 x2 x3
            go_wp2_with fail
            refine (HV.out _).mono ?_
            rintro e w1 ⟨rfl, hB1⟩
            have HO := Lib.hid (own_below HO.out hB1 (Nat.le_refl _))
            have HB := Lib.hid (HB.out.trans (hB1.mono HB.out.size))
            clear hB1 x0 x1 x2 x3
            go_wp2_with fail
            go_roundw
            case rel => exact ⟨m + 1, by omega, by go_num, by rw [HN.out]; exact HO.out, HB.out⟩
            case measure => simp [intOf]; omega
          · have HN2 := Lib.hid (HYes.out hv)
            have HQ := Lib.hid (show vl ⟨op, tq, av, (m : Int)⟩ = 0 by unfold vl; rw [hv]; rfl)
            rw [HQ.out] at HV
            clear hv HQ
            unfold lV at HO HB HX x0 x1 x2 x3
            go_wp2_with fail
            refine (HV.out _).mono ?_
            rintro e w1 ⟨rfl, hB1⟩
            have HO := Lib.hid (own_below HO.out hB1 (Nat.le_refl _))
            have HB := Lib.hid (HB.out.trans (hB1.mono HB.out.size))
            have HX := Lib.hid (hp_below HX.out hB1 (hp_lt HX.out))
            obtain ⟨x0, x1, x2, x3⟩ := boxL_cells (l := ⟨op, tq, av, (m : Int)⟩) HX.out
            clear hB1
            have hal2 : Below w1.heap.size w1 (w1.alloc (.cells (lV ⟨op, tq, av, (m : Int)⟩) 42)) := (Below.refl _ _).alloc (Nat.le_refl _) _
            have HO2 := Lib.hid (own_below HO.out hal2 (Nat.le_refl _))
            have HB2 := Lib.hid (HB.out.trans (hal2.mono HB.out.size))
            have HC := Lib.hid (cells_newL w1 ⟨op, tq, av, (m : Int)⟩)
            unfold lV at HO2 HB2 HC
            clear hal2
            go_wp2_with (at_builtin; (refine wpList_append_own _ rfl (.tmp 24) (.tmp 26) 22 rfl w.heap.size 42 i0 (.agg #[.int .i64 0, .int .i64 0, .int .i64 0, .int .i64 0]) 4 32 Tryz.underlying22 hi hz0 hz1 hz2 rfl (by decide) (.slice va LS.length vc) LS.length (lc LS) rfl HO2.out ⟨w1.heap.size, 0, none⟩ 1 1 (lc [⟨op, tq, av, (m : Int)⟩]) rfl ?c1 ?c2 ?c3 ?c4 ?c5 ?c6 ?_))
            case c1 => rfl
            case c2 => exact HC.out
            case c3 => exact lc_one _
            case c4 => simp [maxLen]; omega
            case c5 => omega
            case c6 => exact HB2.out.size
            intro v' w2 hown hgrow _
            have HB3 := Lib.hid (HB2.out.grown hgrow HB2.out.size (by rintro k hk; exact (HO2.out.lt k hk).1))
            have HO3 := Lib.hid (lines_snoc hown)
            clear hown hgrow
            go_wp2_with fail
            go_roundw
            case rel => exact ⟨m + 1, by omega, by go_num, by rw [HN2.out, List.length_append]; exact HO3.out, HB3.out⟩
            case measure => simp [intOf]; omega
        · obtain rfl : m = 4 := by omega
          rw [← HS.out] at hO
          have HO := Lib.hid hO
          have HB := Lib.hid hB
          clear hO hB
          go_wp2_with fail
          go_roundw
          case rel => exact ⟨k + 1, by omega, by go_num, HO.out, HB.out⟩
          case measure => simp [intOf]; omega
    · obtain rfl : k = 19 := by omega
      have HO := Lib.hid hO
      have HB := Lib.hid hB
      clear hO hB
      go_wp2_with fail
      go_ret
      exact givesLines_of rfl HO.out HB.out

end Go.Proofs.YtfclfmloceddfaaGreat
