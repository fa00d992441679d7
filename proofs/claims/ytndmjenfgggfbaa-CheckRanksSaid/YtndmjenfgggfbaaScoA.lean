/- Scores: what they are; ratio of the document's answers. -/
import Derived.Test.YtndmjenfgggfbaaChkE
import Derived.Test.YtndmjenfgggfbaaTabB
set_option linter.unusedVariables false
set_option linter.unusedSimpArgs false
namespace Go.Proofs.Ytndmjenfgggfbaa
open Go.RowKit Tinker

theorem hasB_plc (bs : List Bool) {j : Nat} (hj : j < bs.length) : hasB (plc bs) (j : Int) = bs.getD j false := by
  rw [Bool.eq_iff_iff]
  unfold hasB plc plcTo
  rw [List.any_eq_true]
  constructor
  · rintro ⟨x, hx, he⟩
    obtain ⟨y, hy, rfl⟩ := List.mem_map.1 hx
    have hy2 := (List.mem_filter.1 hy).2
    have he' : Int.ofNat y = (j : Int) := by simpa using he
    have : y = j := by have h : (y : Int) = (j : Int) := he'; omega
    subst this
    exact hy2
  · intro h
    exact ⟨Int.ofNat j, List.mem_map.2 ⟨j, List.mem_filter.2 ⟨List.mem_range.2 hj, h⟩, rfl⟩, by simp⟩

/-- How many of the first k tests that fail, or pass, do a line. -/
def nT (b : Bool) (ps : List L) (ts : List T) (i : Nat) : Nat → Nat
  | 0 => 0
  | k + 1 => nT b ps ts i k + match ts[k]? with
    | none => 0
    | some t => if pas ps t = b ∧ (rowL ps t.inn).getD i 0 ≠ 0 then 1 else 0
theorem nT_yes {b : Bool} {ps : List L} {ts : List T} {i k : Nat} {t : T} (ht : ts[k]? = some t) (h : pas ps t = b) (h2 : (rowL ps t.inn).getD i 0 ≠ 0) : nT b ps ts i (k + 1) = nT b ps ts i k + 1 := by rw [nT]; simp only [ht]; rw [if_pos ⟨h, h2⟩]
theorem nT_no {b : Bool} {ps : List L} {ts : List T} {i k : Nat} {t : T} (ht : ts[k]? = some t) (h : ¬ (pas ps t = b ∧ (rowL ps t.inn).getD i 0 ≠ 0)) : nT b ps ts i (k + 1) = nT b ps ts i k := by rw [nT]; simp only [ht]; rw [if_neg h]; rfl
theorem nT_le (b : Bool) (ps : List L) (ts : List T) (i : Nat) : ∀ k, nT b ps ts i k ≤ k
  | 0 => Nat.le_refl _
  | k + 1 => by
    have := nT_le b ps ts i k
    rw [nT]
    split
    · omega
    · split <;> omega
theorem rowL_01 (ps : List L) (s : List Int) (i : Nat) : (rowL ps s).getD i 0 = 0 ∨ (rowL ps s).getD i 0 = 1 := by
  have := rowTo_01 ps.length (doneA ps s) (doneA ps s).length i
  unfold rowL; omega
/-- How many of the first k tests fail. -/
def fT (ps : List L) (ts : List T) (k : Nat) : Nat := (plcTo (ts.map fun t => pas ps t == false) k).length
theorem fT_yes {ps : List L} {ts : List T} {k : Nat} {t : T} (ht : ts[k]? = some t) (h : pas ps t = false) : fT ps ts (k + 1) = fT ps ts k + 1 := by
  unfold fT; rw [plcTo_yes (by rw [List.getElem?_map, ht]; simp [h])]; rw [List.length_append]; rfl
theorem fT_no {ps : List L} {ts : List T} {k : Nat} {t : T} (ht : ts[k]? = some t) (h : pas ps t = true) : fT ps ts (k + 1) = fT ps ts k := by
  unfold fT; rw [plcTo_no (by rw [List.getElem?_map, ht]; simp [h])]
theorem nT_fT (ps : List L) (ts : List T) (i : Nat) : ∀ k, k ≤ ts.length → nT false ps ts i k ≤ fT ps ts k
  | 0, _ => Nat.zero_le _
  | k + 1, hk => by
    have ih := nT_fT ps ts i k (by omega)
    obtain ⟨t, ht⟩ := get_of_lt (show k < ts.length by omega)
    cases hp : pas ps t
    · rw [fT_yes ht hp]
      by_cases h : (rowL ps t.inn).getD i 0 ≠ 0
      · rw [nT_yes ht hp h]; omega
      · rw [nT_no ht (fun x => h x.2)]; omega
    · rw [fT_no ht hp, nT_no ht (fun x => by rw [hp] at x; cases x.1)]; exact ih
/-- The counts are these. -/
theorem cnt_is (ps : List L) (ts : List T) {i : Nat} (hi : i < ps.length) : ∀ k, k ≤ ts.length → (cnt ps ts k).1.getD i 0 = (nT false ps ts i k : Int) ∧ (cnt ps ts k).2.1.getD i 0 = (nT true ps ts i k : Int) ∧ (cnt ps ts k).2.2 = fT ps ts k
  | 0, _ => by
    refine ⟨?_, ?_, rfl⟩ <;> simp only [cnt, nT] <;> rw [List.getD_eq_getElem?_getD, List.getElem?_replicate] <;> split <;> rfl
  | k + 1, hk => by
    obtain ⟨h1, h2, h3⟩ := cnt_is ps ts hi k (by omega)
    obtain ⟨l1, l2, _⟩ := cnt_ok ps ts k
    obtain ⟨t, ht⟩ := get_of_lt (show k < ts.length by omega)
    have r01 := rowL_01 ps t.inn i
    cases hp : pas ps t
    · rw [cnt_no ht hp, fT_yes ht hp]
      simp only
      rw [addR_getD, l1, if_pos ⟨hi, hi⟩, h1, h2, h3, nT_no (b := true) ht (fun x => by rw [hp] at x; cases x.1)]
      refine ⟨?_, rfl, rfl⟩
      by_cases h : (rowL ps t.inn).getD i 0 ≠ 0
      · rw [nT_yes ht hp h]; omega
      · rw [nT_no ht (fun x => h x.2)]; omega
    · rw [cnt_yes ht hp, fT_no ht hp]
      simp only
      rw [addR_getD, l2, if_pos ⟨hi, hi⟩, h1, h2, h3, nT_no (b := false) ht (fun x => by rw [hp] at x; cases x.1)]
      refine ⟨rfl, ?_, rfl⟩
      by_cases h : (rowL ps t.inn).getD i 0 ≠ 0
      · rw [nT_yes ht hp h]; omega
      · rw [nT_no ht (fun x => h x.2)]; omega
theorem scTo_get (ps : List L) (ts : List T) {i : Nat} : ∀ k, i < k → i < ps.length → (scTo ps ts k)[i]? = some (scQ ps ts i)
  | 0, h, _ => by omega
  | k + 1, h, hi => by
    rw [scTo, List.getElem?_set, scTo_length]
    by_cases e : k = i
    · subst e; rw [if_pos rfl, if_pos hi]
    · rw [if_neg e]; exact scTo_get ps ts k (by omega) hi
theorem scL_get {ps : List L} {ts : List T} {i : Nat} (hi : i < ps.length) : (scL ps ts)[i]? = some (scQ ps ts i) := scTo_get ps ts _ hi hi
theorem scL_length (ps : List L) (ts : List T) : (scL ps ts).length = ps.length := scTo_length _ _ _
/-- A score, from the counts. -/
theorem scQ_is {ps : List L} {ts : List T} {i : Nat} (hi : i < ps.length) : scN ps ts i = nT false ps ts i ts.length ∧ scD ps ts i = max 1 (fT ps ts ts.length + nT true ps ts i ts.length) := by
  obtain ⟨h1, h2, h3⟩ := cnt_is ps ts hi ts.length (Nat.le_refl _)
  unfold scN scD
  rw [h1, h2, h3]
  simp
theorem frac_zero {d : Nat} (hd : 1 ≤ d) : fracA 0 d = 0 ∧ fracB 0 d = 1 := by
  unfold fracA fracB
  rw [Nat.gcd_zero_left, Nat.zero_div, Nat.div_self (by omega)]
  exact ⟨rfl, rfl⟩
/-- What the document divides. -/
def rN (ps : List L) (ts : List T) (i : Nat) : Nat := if fT ps ts ts.length = 0 then 0 else nT false ps ts i ts.length
def rD (ps : List L) (ts : List T) (i : Nat) : Nat := if fT ps ts ts.length = 0 then 1 else fT ps ts ts.length + nT true ps ts i ts.length
theorem scQ_ref {ps : List L} {ts : List T} {i : Nat} (hi : i < ps.length) : scQ ps ts i = (fracA (rN ps ts i) (rD ps ts i), fracB (rN ps ts i) (rD ps ts i)) := by
  obtain ⟨h1, h2⟩ := scQ_is (ts := ts) hi
  have h3 := nT_fT ps ts i ts.length (Nat.le_refl _)
  unfold scQ rN rD
  rw [h1, h2]
  by_cases h : fT ps ts ts.length = 0
  · rw [if_pos h, if_pos h]
    have e : nT false ps ts i ts.length = 0 := by omega
    rw [e]
    obtain ⟨a, b⟩ := frac_zero (d := max 1 (fT ps ts ts.length + nT true ps ts i ts.length)) (by omega)
    obtain ⟨c, d⟩ := frac_zero (d := 1) (by omega)
    rw [a, b, c, d]
  · rw [if_neg h, if_neg h]
    have e : max 1 (fT ps ts ts.length + nT true ps ts i ts.length) = fT ps ts ts.length + nT true ps ts i ts.length := by omega
    rw [e]
theorem fT_le (ps : List L) (ts : List T) : ∀ k, fT ps ts k ≤ k := fun k => plcTo_length _ _
theorem rD_pos (ps : List L) (ts : List T) (i : Nat) : 1 ≤ rD ps ts i := by unfold rD; split <;> omega
theorem scQ_le {ps : List L} {ts : List T} {i : Nat} (hi : i < ps.length) : (scQ ps ts i).1 ≤ (scQ ps ts i).2 := by
  obtain ⟨h1, h2⟩ := scQ_is (ts := ts) hi
  have h3 := nT_fT ps ts i ts.length (Nat.le_refl _)
  unfold scQ fracA fracB
  simp only
  have : scN ps ts i ≤ scD ps ts i := by omega
  have := Nat.div_le_div_right (c := Nat.gcd (scN ps ts i) (scD ps ts i)) this
  omega

set_option maxRecDepth 100000 in
set_option maxHeartbeats 2000000 in
theorem ratio_any (n d : Nat) (w : World) (hn : n ≤ 1000) (hd : d ≤ 1000) (h0 : 1 ≤ d) :
    Calls Try.prog 77 #[.int .i64 (n : Int), .int .i64 (d : Int)] w fun e w' => e = .returned (.agg #[.int .i64 (fracA n d), .int .i64 (fracB n d)]) ∧ Below w.heap.size w w' := by
  go_enter Try.func77, Try.ntmps77
  go_wp2_with fail
  go_loopw [5, 6] (fun s5 s6 wr => ∃ x y : Nat, s5 = .int .i64 (x : Int) ∧ s6 = .int .i64 (y : Int) ∧ Nat.gcd x y = Nat.gcd n d ∧ x ≤ 1000 ∧ y ≤ 1000 ∧ wr.heap[w.heap.size]? = some (.cells #[.int .i64 0, .int .i64 0] 49 (0, 0)) ∧ Below w.heap.size w wr) (fun _ s6 _ => (intOf s6).toNat)
  case atStart => exact ⟨n, d, rfl, rfl, rfl, hn, hd, hp_new rfl, (Below.refl _ _).alloc (Nat.le_refl _) _⟩
  case round =>
    obtain ⟨x, y, rfl, rfl, hg, hx, hy, hb, hB⟩ := hrel
    have HG := Lib.hid hg
    have HBL := Lib.hid hb
    have HB := Lib.hid hB
    clear hg hb hB
    by_cases hlt : 0 < y
    · have hy0 : (0 : Int) < (y : Int) := by omega
      have hyne : ((y : Int) == 0) = false := by simp; omega
      have hyne1 : ((y : Int) != 0) = true := by simp; omega
      have hyne2 : (y : Int) ≠ 0 := by omega
      go_wp2_with fail
      go_quiet (fail)
      go_wp2_with fail
      go_roundw
      case rel => exact ⟨y, x % y, rfl, by rw [Int.natCast_emod], by rw [Nat.gcd_comm, ← Nat.gcd_rec, Nat.gcd_comm]; exact HG.out, hy, by have := Nat.mod_lt x hlt; omega, HBL.out, HB.out.trans ⟨rfl, rfl, rfl, Nat.le_refl _, fun _ _ => rfl⟩⟩
      case measure =>
        have := Nat.mod_lt x hlt
        simp [intOf]
        omega
    · have : y = 0 := by omega
      subst this
      have hx1 : 1 ≤ x := by
        have := HG.out
        rw [Nat.gcd_zero_right] at this
        rw [this]
        exact Nat.gcd_pos_of_pos_right _ h0
      have hxne : ((x : Int) == 0) = false := by simp; omega
      have hxne2 : (x : Int) ≠ 0 := by omega
      have c0 := hp_cell HBL.out (j := 0) (by rfl)
      have c1 := hp_cell HBL.out (j := 1) (by rfl)
      have f0 := hp_free HBL.out 0
      have f1 := hp_free HBL.out 1
      go_wp2_with fail
      go_region
      all_goals go_wp2_with fail
      have q1 : wrap64 ((n : Int) / (x : Int)) = fracA n d := by
        have hg := HG.out
        rw [Nat.gcd_zero_right] at hg
        unfold fracA
        rw [← hg, ← Int.natCast_ediv]
        have := Nat.div_le_self n x
        generalize n / x = q at this ⊢
        unfold wrap64; omega
      have q2 : wrap64 ((d : Int) / (x : Int)) = fracB n d := by
        have hg := HG.out
        rw [Nat.gcd_zero_right] at hg
        unfold fracB
        rw [← hg, ← Int.natCast_ediv]
        have := Nat.div_le_self d x
        generalize d / x = q at this ⊢
        unfold wrap64; omega
      rw [q1, q2]
      refine bodyPost_ret (v := .agg #[.int .i64 (fracA n d), .int .i64 (fracB n d)]) ?_ rfl ⟨rfl, ((HB.out.setCell (p := ⟨w.heap.size, _, none⟩) (Nat.le_refl _) _).setCell (p := ⟨w.heap.size, _, none⟩) (Nat.le_refl _) _).drew⟩
      exact results_cell_row (p := 4) (ty := 49) rfl _ _ w.heap.size 49 _ (0, 0) _ (by rfl) (hp_put (hp_put HBL.out 0 _) 1 _) Try.underlying49 rfl (by kernel_rfl)

end Go.Proofs.Ytndmjenfgggfbaa
