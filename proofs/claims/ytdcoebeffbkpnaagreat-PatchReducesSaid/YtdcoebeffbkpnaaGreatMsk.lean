/- Plain mathematics: sets of numbers from 0 to 7 as masks, and their order. -/
import Derived.Test.YtdcoebeffbkpnaaGreatSrt
set_option linter.unusedVariables false
set_option linter.unusedSimpArgs false
namespace Tinker

/-- The numbers of a mask. -/
def numsM (m : Nat) : List Int := ((List.range 8).filter (fun n => m.testBit n)).map (fun n : Nat => (n : Int))
/-- The mask of numbers. -/
def maskM (s : List Int) : Nat := s.foldl (fun m n => m ||| 2 ^ n.toNat) 0
/-- A valid set. -/
def setB (s : List Int) : Bool := isSetB s && allBtw s 0 7
/-- A set hits a family. -/
def hitsM (f : List Nat) (m : Nat) : Bool := f.all (fun x => x &&& m != 0)
/-- A set without a number. -/
def woM (m n : Nat) : Nat := m &&& (255 - 2 ^ n)
/-- A set hits a family no more without any one number. -/
def needM (f : List Nat) (m : Nat) : Bool := (numsM m).all fun n => !hitsM f (woM m n.toNat)
/-- What the search comes to behind a set, with the last k numbers still open. -/
def tlM : Nat → Nat → List Nat
  | 0, _ => []
  | k + 1, m => ((m ||| 2 ^ (7 - k)) :: tlM k (m ||| 2 ^ (7 - k))) ++ tlM k m
/-- All sets, in ascending order. -/
def enumM : List Nat := 0 :: tlM 8 0

/-- A list comes before another one. -/
def befB : List Int → List Int → Bool
  | [], [] => false
  | [], _ :: _ => true
  | _ :: _, [] => false
  | x :: a, y :: b => if x = y then befB a b else decide (x < y)
theorem befB_trans : ∀ {a b c : List Int}, befB a b = true → befB b c = true → befB a c = true
  | [], [], _, h, _ => by simp [befB] at h
  | [], _ :: _, [], _, h => by simp [befB] at h
  | [], _ :: _, _ :: _, _, _ => rfl
  | x :: a, [], _, h, _ => by simp [befB] at h
  | x :: a, y :: b, [], _, h => by simp [befB] at h
  | x :: a, y :: b, z :: c, h1, h2 => by
    rw [befB] at h1 h2 ⊢
    by_cases e1 : x = y
    · subst e1
      rw [if_pos rfl] at h1
      by_cases e2 : x = z
      · subst e2
        rw [if_pos rfl] at h2 ⊢
        exact befB_trans h1 h2
      · rw [if_neg e2] at h2 ⊢
        exact h2
    · rw [if_neg e1] at h1
      have h1' := of_decide_eq_true h1
      by_cases e2 : y = z
      · subst e2
        rw [if_neg e1]
        exact h1
      · rw [if_neg e2] at h2
        have h2' := of_decide_eq_true h2
        rw [if_neg (by omega)]
        exact decide_eq_true (by omega)
theorem befB_asym : ∀ {a b : List Int}, befB a b = true → ¬ befB b a = true
  | [], [], h => by simp [befB] at h
  | [], _ :: _, _ => by simp [befB]
  | _ :: _, [], h => by simp [befB] at h
  | x :: a, y :: b, h => by
    rw [befB] at h ⊢
    by_cases e1 : x = y
    · subst e1
      rw [if_pos rfl] at h ⊢
      exact befB_asym h
    · rw [if_neg e1] at h
      rw [if_neg (fun e => e1 e.symm)]
      have h1 := of_decide_eq_true h
      simp; omega
theorem befB_total : ∀ {a b : List Int}, a ≠ b → befB a b = true ∨ befB b a = true
  | [], [], h => absurd rfl h
  | [], _ :: _, _ => .inl rfl
  | _ :: _, [], _ => .inr rfl
  | x :: a, y :: b, h => by
    by_cases e1 : x = y
    · subst e1
      rcases befB_total (a := a) (b := b) (fun e => h (by rw [e])) with h1 | h1
      · exact .inl (by rw [befB, if_pos rfl]; exact h1)
      · exact .inr (by rw [befB, if_pos rfl]; exact h1)
    · rcases Int.lt_or_lt_of_ne e1 with h1 | h1
      · exact .inl (by rw [befB, if_neg e1]; exact decide_eq_true h1)
      · exact .inr (by rw [befB, if_neg (fun e => e1 e.symm)]; exact decide_eq_true h1)

/-- Each list comes before the next one. -/
def adjB : List (List Int) → Bool
  | x :: y :: r => befB x y && adjB (y :: r)
  | _ => true
theorem adj_pair : ∀ {l : List (List Int)}, adjB l = true → l.Pairwise (fun a b => befB a b = true)
  | [], _ => List.Pairwise.nil
  | [x], _ => by simp
  | x :: y :: r, h => by
    rw [adjB, Bool.and_eq_true] at h
    have ih := adj_pair h.2
    refine List.pairwise_cons.2 ⟨fun z hz => ?_, ih⟩
    rcases List.mem_cons.1 hz with e | e
    · subst e; exact h.1
    · exact befB_trans h.1 ((List.pairwise_cons.1 ih).1 z e)

set_option maxRecDepth 100000 in
theorem enum_mem : ∀ m, m < 256 → m ∈ enumM := by decide +kernel
set_option maxRecDepth 100000 in
theorem enum_lt : ∀ m, m ∈ enumM → m < 256 := by decide +kernel
set_option maxRecDepth 100000 in
theorem enum_adj : adjB (enumM.map numsM) = true := by decide +kernel
theorem enum_srt : (enumM.map numsM).Pairwise (fun a b => befB a b = true) := adj_pair enum_adj
set_option maxRecDepth 100000 in
theorem maskM_nums : ∀ m, m < 256 → maskM (numsM m) = m := by decide +kernel
set_option maxRecDepth 100000 in
theorem setB_nums : ∀ m, m < 256 → setB (numsM m) = true := by decide +kernel
theorem numsM_inj {m n : Nat} (hm : m < 256) (hn : n < 256) (h : numsM m = numsM n) : m = n := by
  rw [← maskM_nums m hm, h, maskM_nums n hn]
theorem numsM_mem {m n : Nat} : (n : Int) ∈ numsM m ↔ n < 8 ∧ m.testBit n = true := by
  unfold numsM
  simp only [List.mem_map, List.mem_filter, List.mem_range]
  constructor
  · rintro ⟨a, h, e⟩
    have : a = n := by omega
    rw [← this]; exact h
  · intro h
    exact ⟨n, h, rfl⟩
theorem numsM_mem' {m : Nat} {x : Int} : x ∈ numsM m ↔ ∃ n : Nat, x = (n : Int) ∧ n < 8 ∧ m.testBit n = true := by
  unfold numsM
  simp only [List.mem_map, List.mem_filter, List.mem_range]
  constructor
  · rintro ⟨n, ⟨h1, h2⟩, rfl⟩; exact ⟨n, rfl, h1, h2⟩
  · rintro ⟨n, rfl, h1, h2⟩; exact ⟨n, ⟨h1, h2⟩, rfl⟩
theorem maskM_go (s : List Int) : ∀ (a n : Nat), (s.foldl (fun m n => m ||| 2 ^ n.toNat) a).testBit n = (a.testBit n || s.any (fun x => x.toNat == n)) := by
  induction s with
  | nil => intro a n; simp
  | cons x r ih =>
    intro a n
    rw [List.foldl_cons, ih, Nat.testBit_or, Nat.testBit_two_pow, List.any_cons, Bool.or_assoc]
    congr 2
theorem maskM_bit (s : List Int) (n : Nat) : (maskM s).testBit n = s.any (fun x => x.toNat == n) := by
  unfold maskM; rw [maskM_go]; simp
theorem setB_btw {s : List Int} (h : setB s = true) {x : Int} (hx : x ∈ s) : 0 ≤ x ∧ x ≤ 7 := by
  unfold setB at h
  rw [Bool.and_eq_true] at h
  exact btw_true.1 (List.all_eq_true.1 h.2 x hx)
theorem maskM_lt_go (s : List Int) : (∀ x ∈ s, 0 ≤ x ∧ x ≤ 7) → ∀ a : Nat, a < 256 → s.foldl (fun m n => m ||| 2 ^ n.toNat) a < 256 := by
  induction s with
  | nil => intro _ a h; simpa
  | cons x r ih =>
    intro h a ha
    rw [List.foldl_cons]
    refine ih (fun y hy => h y (List.mem_cons_of_mem _ hy)) _ (Nat.or_lt_two_pow (n := 8) ha ?_)
    obtain ⟨h1, h2⟩ := h x (by simp)
    exact Nat.pow_lt_pow_right (by omega) (by omega)
theorem maskM_lt {s : List Int} (h : setB s = true) : maskM s < 256 := maskM_lt_go s (fun x hx => setB_btw h hx) 0 (by omega)
theorem isSetB_pair : ∀ {l : List Int}, isSetB l = true → l.Pairwise (· < ·)
  | [], _ => List.Pairwise.nil
  | [x], _ => by simp
  | x :: y :: r, h => by
    rw [isSetB, Bool.and_eq_true] at h
    have ih := isSetB_pair h.2
    have h1 := of_decide_eq_true h.1
    refine List.pairwise_cons.2 ⟨fun z hz => ?_, ih⟩
    rcases List.mem_cons.1 hz with e | e
    · subst e; exact h1
    · have := (List.pairwise_cons.1 ih).1 z e; omega
theorem nums_maskM {s : List Int} (h : setB s = true) : numsM (maskM s) = s := by
  have hs : isSetB s = true := by unfold setB at h; rw [Bool.and_eq_true] at h; exact h.1
  have hn := setB_nums _ (maskM_lt h)
  have hn' : isSetB (numsM (maskM s)) = true := by unfold setB at hn; rw [Bool.and_eq_true] at hn; exact hn.1
  refine srt_unique (r := fun a b : Int => a < b) (fun a b h1 h2 => by omega) (isSetB_pair hn') (isSetB_pair hs) fun x => ?_
  rw [numsM_mem']
  constructor
  · rintro ⟨n, rfl, h1, h2⟩
    rw [maskM_bit, List.any_eq_true] at h2
    obtain ⟨y, hy, e⟩ := h2
    have e' : y.toNat = n := by simpa using e
    have := setB_btw h hy
    have : y = (n : Int) := by omega
    rw [← this]; exact hy
  · intro hx
    obtain ⟨h1, h2⟩ := setB_btw h hx
    refine ⟨x.toNat, by omega, by omega, ?_⟩
    rw [maskM_bit, List.any_eq_true]
    exact ⟨x, hx, by simp⟩

/-- A list put into its place among others. -/
def insO (out : List (List Int)) (x : List Int) : List (List Int) := out.takeWhile (befB · x) ++ x :: out.dropWhile (befB · x)
theorem insO_mem {out : List (List Int)} {x y : List Int} : y ∈ insO out x ↔ y = x ∨ y ∈ out := by
  unfold insO
  rw [List.mem_append, List.mem_cons]
  constructor
  · rintro (h | h | h)
    · exact .inr (List.takeWhile_sublist _ |>.subset h)
    · exact .inl h
    · exact .inr (List.dropWhile_sublist _ |>.subset h)
  · rintro (h | h)
    · exact .inr (.inl h)
    · rw [← List.takeWhile_append_dropWhile (p := (befB · x)) (l := out), List.mem_append] at h
      rcases h with h | h
      · exact .inl h
      · exact .inr (.inr h)
theorem takeW_all {p : List Int → Bool} : ∀ {l : List (List Int)} {a : List Int}, a ∈ l.takeWhile p → p a = true
  | [], a, h => by simp at h
  | x :: r, a, h => by
    rw [List.takeWhile_cons] at h
    by_cases hp : p x = true
    · rw [if_pos hp] at h
      rcases List.mem_cons.1 h with e | e
      · subst e; exact hp
      · exact takeW_all e
    · rw [if_neg hp] at h; simp at h
theorem dropW_first {p : List Int → Bool} : ∀ {l r : List (List Int)} {a : List Int}, l.dropWhile p = a :: r → p a = false
  | [], r, a, h => by simp at h
  | x :: s, r, a, h => by
    rw [List.dropWhile_cons] at h
    by_cases hp : p x = true
    · rw [if_pos hp] at h; exact dropW_first h
    · rw [if_neg hp] at h
      injection h with h1 h2
      subst h1
      simpa using hp
theorem insO_srt {out : List (List Int)} {x : List Int} (h : out.Pairwise (fun a b => befB a b = true)) (hx : x ∉ out) : (insO out x).Pairwise (fun a b => befB a b = true) := by
  unfold insO
  have ht := h.sublist (List.takeWhile_sublist (befB · x))
  have hd := h.sublist (List.dropWhile_sublist (befB · x))
  have hxd : ∀ b ∈ out.dropWhile (befB · x), befB x b = true := by
    cases hr : out.dropWhile (befB · x) with
    | nil => intro b hb; simp at hb
    | cons y r =>
      have h1 : befB y x = false := dropW_first (p := (befB · x)) hr
      have hy : y ∈ out := (List.dropWhile_sublist (befB · x)).subset (by rw [hr]; simp)
      have h2 : befB x y = true := by
        rcases befB_total (a := x) (b := y) (fun e => hx (by rw [e]; exact hy)) with h2 | h2
        · exact h2
        · rw [h1] at h2; cases h2
      intro b hb
      rcases List.mem_cons.1 hb with e | e
      · subst e; exact h2
      · rw [hr] at hd
        exact befB_trans h2 ((List.pairwise_cons.1 hd).1 b e)
  refine List.pairwise_append.2 ⟨ht, List.pairwise_cons.2 ⟨hxd, hd⟩, fun a ha b hb => ?_⟩
  have hax : befB a x = true := takeW_all (p := (befB · x)) ha
  rcases List.mem_cons.1 hb with e | e
  · subst e; exact hax
  · exact befB_trans hax (hxd b e)

/-- Sets in ascending order. -/
def ordL (l : List Nat) : List (List Int) := l.foldl (fun o m => insO o (numsM m)) []
theorem ordL_go : ∀ (l : List Nat) (out : List (List Int)), out.Pairwise (fun a b => befB a b = true) → (∀ m ∈ l, m < 256 ∧ numsM m ∉ out) → l.Nodup →
    (l.foldl (fun o m => insO o (numsM m)) out).Pairwise (fun a b => befB a b = true) ∧ ∀ y, y ∈ l.foldl (fun o m => insO o (numsM m)) out ↔ y ∈ out ∨ ∃ m ∈ l, y = numsM m
  | [], out, h, _, _ => ⟨h, fun y => by simp⟩
  | m :: r, out, h, hm, hn => by
    obtain ⟨hn1, hn2⟩ := List.nodup_cons.1 hn
    have hm0 := hm m (by simp)
    obtain ⟨i1, i2⟩ := ordL_go r (insO out (numsM m)) (insO_srt h hm0.2) (fun k hk => by
      have hk0 := hm k (List.mem_cons_of_mem _ hk)
      refine ⟨hk0.1, fun hc => ?_⟩
      rcases insO_mem.1 hc with e | e
      · exact hn1 (by rw [← numsM_inj hk0.1 hm0.1 e]; exact hk)
      · exact hk0.2 e) hn2
    rw [List.foldl_cons]
    refine ⟨i1, fun y => ?_⟩
    rw [i2 y, insO_mem]
    constructor
    · rintro ((h1 | h1) | ⟨k, hk, h1⟩)
      · exact .inr ⟨m, by simp, h1⟩
      · exact .inl h1
      · exact .inr ⟨k, List.mem_cons_of_mem _ hk, h1⟩
    · rintro (h1 | ⟨k, hk, h1⟩)
      · exact .inl (.inr h1)
      · rcases List.mem_cons.1 hk with e | e
        · subst e; exact .inl (.inl h1)
        · exact .inr ⟨k, e, h1⟩
theorem ordL_eq {l : List Nat} {P : Nat → Bool} (hn : l.Nodup) (hl : ∀ m, m ∈ l ↔ m < 256 ∧ P m = true) : ordL l = (enumM.filter P).map numsM := by
  obtain ⟨h1, h2⟩ := ordL_go l [] List.Pairwise.nil (fun m hm => ⟨((hl m).1 hm).1, by simp⟩) hn
  refine srt_unique (r := fun a b => befB a b = true) (fun a b => befB_asym) h1 (enum_srt.sublist (List.filter_sublist.map numsM)) fun y => ?_
  show y ∈ l.foldl (fun o m => insO o (numsM m)) [] ↔ _
  rw [h2 y]
  simp only [List.mem_map, List.mem_filter]
  constructor
  · rintro (h | ⟨m, hm, e⟩)
    · simp at h
    · exact ⟨m, ⟨enum_mem m ((hl m).1 hm).1, ((hl m).1 hm).2⟩, e.symm⟩
  · rintro ⟨m, ⟨hm, hp⟩, e⟩
    exact .inr ⟨m, (hl m).2 ⟨enum_lt m hm, hp⟩, e.symm⟩
theorem ord_range (P : Nat → Bool) : ordL ((List.range 256).filter P) = (enumM.filter P).map numsM :=
  ordL_eq (List.nodup_range.sublist List.filter_sublist) fun m => by simp

/-- The smallest sets that hit a family. -/
def blkM (f : List Nat) : List Nat := enumM.filter fun m => hitsM f m && needM f m

set_option maxRecDepth 100000 in
theorem has_bit : ∀ m, m < 256 → ∀ n, n < 8 → (m &&& 2 ^ n != 0) = m.testBit n := by decide +kernel
set_option maxRecDepth 100000 in
theorem shr_bit : ∀ m, m < 256 → ∀ n, n < 8 → ((m / 2 ^ n) &&& 1 == 1) = m.testBit n := by decide +kernel
set_option maxRecDepth 100000 in
theorem wo_sub : ∀ m, m < 256 → ∀ n, n < 8 → m.testBit n = true → m - 2 ^ n = woM m n := by decide +kernel
set_option maxRecDepth 100000 in
theorem wo_not : ∀ m, m < 256 → ∀ n, n < 8 → m &&& (18446744073709551615 - 2 ^ n) = woM m n := by decide +kernel
set_option maxRecDepth 100000 in
theorem with_lt : ∀ m, m < 256 → ∀ n, n < 8 → m ||| 2 ^ n < 256 := by decide +kernel
set_option maxRecDepth 100000 in
theorem wo_lt : ∀ m, m < 256 → ∀ n, n < 8 → woM m n < 256 := by decide +kernel

end Tinker
