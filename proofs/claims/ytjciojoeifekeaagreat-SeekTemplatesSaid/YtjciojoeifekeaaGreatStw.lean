/- Several texts in one. -/
import Derived.Test.YtjciojoeifekeaaGreatSgC
import Derived.Test.YtjciojoeifekeaaGreatSal
import Derived.Test.YtjciojoeifekeaaGreatRtm
import Derived.Test.YtjciojoeifekeaaGreatSkC
/- The example of the statements about search. -/
set_option linter.unusedVariables false
set_option linter.unusedSimpArgs false
namespace Go.Proofs.YtjciojoeifekeaaGreat
open Go.RowKit Go.Shelf Tinker
def s5P : List L := [⟨1, 0, 3, 0⟩, ⟨3, 0, 0, 0⟩]
def s5T : List T := [⟨[0, 0, 0, 0], 0, 8⟩]
theorem s5_lines (w : World) (t : TypeId) : LinesAt (w.alloc (.cells #[.int .i64 1, .int .i64 0, .int .i64 3, .int .i64 0, .int .i64 3, .int .i64 0, .int .i64 0, .int .i64 0] t)) (some ⟨w.heap.size, 0, none⟩) s5P :=
  .inr ⟨w.heap.size, 0, rfl, by simp, fun j l hj => by
    match j, hj with
    | 0, hj => simp [s5P] at hj; subst hj; exact ⟨hp_cell (hp_new rfl) rfl, hp_cell (hp_new rfl) rfl, hp_cell (hp_new rfl) rfl, hp_cell (hp_new rfl) rfl⟩
    | 1, hj => simp [s5P] at hj; subst hj; exact ⟨hp_cell (hp_new rfl) rfl, hp_cell (hp_new rfl) rfl, hp_cell (hp_new rfl) rfl, hp_cell (hp_new rfl) rfl⟩
    | j + 2, hj => simp [s5P] at hj⟩
theorem s5_tests {w : World} {n : Nat} {t : TypeId} {m : Nat} (hm : w.heap.size = m) (h : IntsAt w (some ⟨n, 0, none⟩) [0, 0, 0, 0]) : TestsAt (w.alloc (.cells #[.slice (some ⟨n, 0, none⟩) 4 4, .int .i64 0, .int .i64 8] t)) (some ⟨m, 0, none⟩) s5T := by
  subst hm
  refine .inr ⟨w.heap.size, 0, rfl, by simp, fun j t' hj' => ?_⟩
  match j, hj' with
  | 0, hj' => simp [s5T] at hj'; subst hj'; exact ⟨_, 4, hp_cell (hp_new rfl) rfl, hp_cell (hp_new rfl) rfl, hp_cell (hp_new rfl) rfl, h.below ((Below.refl _ _).alloc (Nat.le_refl _) _) (Nat.le_refl _)⟩
  | j + 1, hj' => simp [s5T] at hj'
theorem s5_ints (w : World) : IntsAt (w.alloc (.cells #[.int .i64 0, .int .i64 0, .int .i64 0, .int .i64 0] 3)) (some ⟨w.heap.size, 0, none⟩) [0, 0, 0, 0] :=
  .inr ⟨w.heap.size, 0, rfl, by simp, fun j n hj => by
    match j, hj with
    | 0, hj => simp at hj; subst hj; exact hp_cell (hp_new rfl) rfl
    | 1, hj => simp at hj; subst hj; exact hp_cell (hp_new rfl) rfl
    | 2, hj => simp at hj; subst hj; exact hp_cell (hp_new rfl) rfl
    | 3, hj => simp at hj; subst hj; exact hp_cell (hp_new rfl) rfl
    | j + 4, hj => simp at hj⟩

def s5L : List L := [⟨0, 0, 0, 0⟩, ⟨1, 0, 2, 0⟩, ⟨1, 0, 4, 0⟩, ⟨1, 1, 3, 0⟩, ⟨1, 2, 3, 0⟩, ⟨1, 3, 3, 0⟩]
theorem s5_1 : (if isLn ⟨1, 0, 3, 0⟩ = true then tmpl ⟨1, 0, 3, 0⟩ else []) = s5L := by kernel_rfl
theorem s5_2 : vl ⟨1, 0, 3, 0⟩ = 0 := by kernel_rfl
theorem s5_3 : skC s5P s5T 0 = 0 := by kernel_rfl
def s5E : E := ⟨0, ⟨1, 0, 4, 0⟩⟩
/-- The edits of the example, cheaply reckoned. -/
def s5X (i : Nat) : List E := (allL.filter fun m => nearB (lnD s5P i) m && !eqL m (lnD s5P i)).map fun m => ⟨(i : Int), m⟩
theorem s5_4 : edL s5P 0 = s5X 0 ++ s5X 1 := by
  have h : ∀ i, (cndL s5P i 0).map (fun m => (⟨(i : Int), m⟩ : E)) = s5X i := fun i => by
    unfold s5X
    rw [cnd_filter]
    rfl
  show edK s5P 0 2 = _
  rw [edK_succ, edK_succ, h, h]
  rfl
theorem s5_5 : smX s5P s5T (s5X 0 ++ s5X 1) = some (s5E, 1) := by kernel_rfl
theorem s5_6 : sgO s5P s5T 0 = some (s5E, 1) := by
  unfold sgO
  rw [if_pos s5_3, s5_4, s5_5]

set_option maxRecDepth 100000 in
set_option maxHeartbeats 2000000 in
theorem sane5_true (w : World) : Calls Tryz.prog 13 #[] w fun e w' => e = .returned (.bool true) ∧ Below w.heap.size w w' := by
  have H1 := Lib.hid (fun w => templatesE_any ⟨1, 0, 3, 0⟩ w)
  have H2 := Lib.hid (fun (b g : Addr) (w : World) (h1 : LinesAt w (some b) s5P) (h2 : TestsAt w (some g) s5T) => sSingle_any (some b) (some g) 2 1 s5P s5T 0 w h1 h2 (by decide) (by decide) (by decide))
  rw [s5_1, s5_2] at H1
  rw [s5_6, s5_3] at H2
  rw [show bsE (some (s5E, 1)) = s5E from rfl, show (some (s5E, (1 : Int))).isSome = true from rfl, show s5P.length = 2 from rfl, show s5T.length = 1 from rfl, show eV s5E = #[.int .i64 0, .int .i64 1, .int .i64 0, .int .i64 4, .int .i64 0] from rfl] at H2
  have HL6 := Lib.hid (show s5L.length = 6 from rfl)
  have HL0 := Lib.hid (show s5L[0]? = some (⟨0, 0, 0, 0⟩ : L) from rfl)
  unfold lv at H1
  generalize s5L = TL at *
  go_enter Tryz.func13, Tryz.ntmps13
  go_wp2_with fail
  refine (H1.out _).mono ?_
  rintro e w1 ⟨a1, k1, rfl, hq, hB⟩
  obtain ⟨g, rfl⟩ := own_form hq (by rw [HL6.out]; decide)
  obtain ⟨b', off', l0, e', hlb, hl0, c0, c1, c2, c3⟩ := (lines_of_own hq).1.at_ (k := 0) (by rw [HL6.out]; decide)
  injection e' with e'
  injection e' with e1 e2
  subst e1 e2
  rw [HL0.out] at hl0
  injection hl0 with hl0
  subst hl0
  have hL := s5_lines w1 23
  have hB1 := (Below.refl w1.heap.size w1).alloc (Nat.le_refl _) (.cells #[.int .i64 1, .int .i64 0, .int .i64 3, .int .i64 0, .int .i64 3, .int .i64 0, .int .i64 0, .int .i64 0] 23)
  obtain ⟨W1, hW1⟩ : ∃ W, W = w1.alloc (.cells #[.int .i64 1, .int .i64 0, .int .i64 3, .int .i64 0, .int .i64 3, .int .i64 0, .int .i64 0, .int .i64 0] 23) := ⟨_, rfl⟩
  rw [← hW1] at hL hB1
  have hsz1 : W1.heap.size = w1.heap.size + 1 := by rw [hW1]; simp
  have hI := s5_ints W1
  have hB2 := (Below.refl W1.heap.size W1).alloc (Nat.le_refl _) (.cells #[.int .i64 0, .int .i64 0, .int .i64 0, .int .i64 0] 3)
  obtain ⟨W2, hW2⟩ : ∃ W, W = W1.alloc (.cells #[.int .i64 0, .int .i64 0, .int .i64 0, .int .i64 0] 3) := ⟨_, rfl⟩
  rw [← hW2] at hI hB2
  have hsz2 : W2.heap.size = w1.heap.size + 1 + 1 := by rw [hW2]; simp [hsz1]
  rw [hsz1] at hI
  have hT := s5_tests (t := 64) hsz2 hI
  have hB3 := (Below.refl W2.heap.size W2).alloc (Nat.le_refl _) (.cells #[.slice (some ⟨w1.heap.size + 1, 0, none⟩) 4 4, .int .i64 0, .int .i64 8] 64)
  have HL := Lib.hid ((hL.below hB2 (Nat.le_refl _)).below hB3 (Nat.le_refl _))
  have HT := Lib.hid hT
  have hB13 := hB1.trans ((hB2.mono hB1.size).trans (hB3.mono (Nat.le_trans hB1.size hB2.size)))
  have HB := Lib.hid (hB.trans (hB13.mono hB.size))
  rw [hW2, hW1] at HL HT HB hB13
  have HB13 := Lib.hid hB13
  have HLG := Lib.hid hlb
  have HC0 := Lib.hid c0
  have HC1 := Lib.hid c1
  have HC2 := Lib.hid c2
  have HC3 := Lib.hid c3
  have HSL := HL6.out
  rw [HSL]
  clear hq hB hB1 hB2 hB3 hB13 hL hI hT hW1 hW2 hsz1 hsz2 c0 c1 c2 c3 hlb HSL HL0 W1 W2
  go_wp2_with fail
  refine (H2.out _ _ _ HL.out HT.out).mono ?_
  rintro e w2 ⟨rfl, hB⟩
  have hX := HB13.out.trans (hB.mono HB13.out.size)
  have hal := (Below.refl w2.heap.size w2).alloc (Nat.le_refl _) (.cells #[.int .i64 0, .int .i64 1, .int .i64 0, .int .i64 4, .int .i64 0] 41)
  have h9 := hX.trans (hal.mono hX.size)
  have c0 := (h9.cell (p := ⟨g, _, none⟩) HLG.out).trans HC0.out
  have c1 := (h9.cell (p := ⟨g, _, none⟩) HLG.out).trans HC1.out
  have c2 := (h9.cell (p := ⟨g, _, none⟩) HLG.out).trans HC2.out
  have c3 := (h9.cell (p := ⟨g, _, none⟩) HLG.out).trans HC3.out
  simp only [Nat.zero_mul, Nat.zero_add] at c0 c1 c2 c3
  have hN := hp_new (w := w2) (o := .cells #[.int .i64 0, .int .i64 1, .int .i64 0, .int .i64 4, .int .i64 0] 41 (0, 0)) rfl
  have y0 := hp_cell hN (j := 0) (by rfl)
  have y1 := hp_cell hN (j := 1) (by rfl)
  have y2 := hp_cell hN (j := 2) (by rfl)
  have y3 := hp_cell hN (j := 3) (by rfl)
  have y4 := hp_cell hN (j := 4) (by rfl)
  have HB4 := Lib.hid ((HB.out.trans (hB.mono HB.out.size)).trans (hal.mono (Nat.le_trans HB.out.size hB.size)))
  clear hX hal h9 hN hB
  go_wp2_with fail
  go_ret
  exact ⟨rfl, HB4.out⟩

end Go.Proofs.YtjciojoeifekeaaGreat

/- SeekTemplates: the walk. -/
set_option linter.unusedVariables false
set_option linter.unusedSimpArgs false
namespace Go.Proofs.YtjciojoeifekeaaGreat
open Go.RowKit Go.Shelf Tinker

theorem tm_len9 (l : L) : (if isLn l = true then tmpl l else []).length ≤ 1000 := by
  split
  · exact tmpl_len9 l
  · simp
set_option maxRecDepth 100000 in
set_option maxHeartbeats 4000000 in
theorem seekTemplates_walk (l m : L) (ww : World) : Calls Tryz.prog 3 #[lv l, lv m] ww fun e w' => e = .returned (.bool true) ∧ Below ww.heap.size ww w' := by
  have C1 := Lib.hid (fun w => templatesE_any l w)
  have C2 := Lib.hid (fun w => rTemplates_any l w)
  have C3 := Lib.hid (fun w => near_any l m w)
  have C4 := Lib.hid (fun w => rNear5_any l m w)
  have HS := Lib.hid (fun a b c d w h1 h2 => sameL4_self (if isLn l = true then tmpl l else []).length a b c d (if isLn l = true then tmpl l else []) w rfl h1 h2 (tm_len9 l))
  have HK := Lib.hid (fun w => sane5_true w)
  generalize (if isLn l = true then tmpl l else []) = A at *
  generalize vl l = q at *
  generalize nrB l m = r at *
  generalize nrC l m = q2 at *
  have e1 : (q == q) = true := by simp
  have e2 : (q2 == q2) = true := by simp
  have e3 : (r == r) = true := by simp
  obtain ⟨W0, hW0⟩ : ∃ W, W = (ww.alloc (.cells (lV l) 23)).alloc (.cells (lV m) 23) := ⟨_, rfl⟩
  have hb : Below ww.heap.size ww W0 := by rw [hW0]; exact ((Below.refl _ _).alloc (Nat.le_refl _) _).alloc (by simp) _
  have h1 : W0.heap[ww.heap.size]? = some (.cells (lV l) 23 (0, 0)) := by rw [hW0]; exact hp_alloc (hp_new rfl)
  have h2 : W0.heap[ww.heap.size + 1]? = some (.cells (lV m) 23 (0, 0)) := by rw [hW0]; exact hp_new (by simp)
  obtain ⟨x0, x1, x2, x3⟩ := boxL_cells h1
  obtain ⟨y0, y1, y2, y3⟩ := boxL_cells h2
  have HB := Lib.hid hb
  have HX1 := Lib.hid h1
  have HX2 := Lib.hid h2
  clear hb h1 h2
  unfold lV at hW0
  unfold lv at C1 C2 C3 C4 ⊢
  go_enter Tryz.func3, Tryz.ntmps3
  rw [hW0] at x0 x1 x2 x3 y0 y1 y2 y3
  go_wp2_with fail
  rw [← hW0]
  rw [← hW0] at x0 x1 x2 x3 y0 y1 y2 y3
  clear hW0
  refine (C1.out _).mono ?_
  rintro e w1 ⟨a1, k1, rfl, hq, hB⟩
  have HO1 := Lib.hid hq
  clear hq
  have HX1 := Lib.hid (hp_below HX1.out hB (hp_lt HX1.out))
  have HX2 := Lib.hid (hp_below HX2.out hB (hp_lt HX2.out))
  have HB := Lib.hid (HB.out.trans (hB.mono HB.out.size))
  clear hB x0 x1 x2 x3 y0 y1 y2 y3
  obtain ⟨x0, x1, x2, x3⟩ := boxL_cells HX1.out
  obtain ⟨y0, y1, y2, y3⟩ := boxL_cells HX2.out
  go_wp2_with fail
  refine (C2.out _).mono ?_
  rintro e w2 ⟨a2, k2, rfl, hq, hB⟩
  have HO1 := Lib.hid (own_below HO1.out hB (Nat.le_refl _))
  have HO2 := Lib.hid (lines_of_own hq).1
  clear hq
  have HX1 := Lib.hid (hp_below HX1.out hB (hp_lt HX1.out))
  have HX2 := Lib.hid (hp_below HX2.out hB (hp_lt HX2.out))
  have HB := Lib.hid (HB.out.trans (hB.mono HB.out.size))
  clear hB x0 x1 x2 x3 y0 y1 y2 y3
  obtain ⟨x0, x1, x2, x3⟩ := boxL_cells HX1.out
  obtain ⟨y0, y1, y2, y3⟩ := boxL_cells HX2.out
  go_wp2_with fail
  refine (C3.out _).mono ?_
  rintro e w3 ⟨rfl, hB⟩
  have HO1 := Lib.hid (own_below HO1.out hB (Nat.le_refl _))
  have HO2 := Lib.hid (HO2.out.below hB (Nat.le_refl _))
  have HX1 := Lib.hid (hp_below HX1.out hB (hp_lt HX1.out))
  have HX2 := Lib.hid (hp_below HX2.out hB (hp_lt HX2.out))
  have HB := Lib.hid (HB.out.trans (hB.mono HB.out.size))
  clear hB x0 x1 x2 x3 y0 y1 y2 y3
  obtain ⟨x0, x1, x2, x3⟩ := boxL_cells HX1.out
  obtain ⟨y0, y1, y2, y3⟩ := boxL_cells HX2.out
  go_wp2_with fail
  refine (C4.out _).mono ?_
  rintro e w4 ⟨rfl, hB⟩
  have HO1 := Lib.hid (own_below HO1.out hB (Nat.le_refl _))
  have HO2 := Lib.hid (HO2.out.below hB (Nat.le_refl _))
  have HX1 := Lib.hid (hp_below HX1.out hB (hp_lt HX1.out))
  have HX2 := Lib.hid (hp_below HX2.out hB (hp_lt HX2.out))
  have HB := Lib.hid (HB.out.trans (hB.mono HB.out.size))
  clear hB x0 x1 x2 x3 y0 y1 y2 y3
  obtain ⟨x0, x1, x2, x3⟩ := boxL_cells HX1.out
  obtain ⟨y0, y1, y2, y3⟩ := boxL_cells HX2.out
  go_wp2_with fail
  refine (HS.out _ _ _ _ _ (lines_of_own HO1.out).1 HO2.out).mono ?_
  rintro e w5 ⟨rfl, hB⟩
  have HX1 := Lib.hid (hp_below HX1.out hB (hp_lt HX1.out))
  have HX2 := Lib.hid (hp_below HX2.out hB (hp_lt HX2.out))
  have HB := Lib.hid (HB.out.trans (hB.mono HB.out.size))
  clear hB x0 x1 x2 x3 y0 y1 y2 y3
  obtain ⟨x0, x1, x2, x3⟩ := boxL_cells HX1.out
  obtain ⟨y0, y1, y2, y3⟩ := boxL_cells HX2.out
  go_wp2_with fail
  refine (HK.out _).mono ?_
  rintro e w6 ⟨rfl, hB⟩
  have HX1 := Lib.hid (hp_below HX1.out hB (hp_lt HX1.out))
  have HX2 := Lib.hid (hp_below HX2.out hB (hp_lt HX2.out))
  have HB := Lib.hid (HB.out.trans (hB.mono HB.out.size))
  clear hB x0 x1 x2 x3 y0 y1 y2 y3
  obtain ⟨x0, x1, x2, x3⟩ := boxL_cells HX1.out
  obtain ⟨y0, y1, y2, y3⟩ := boxL_cells HX2.out
  go_wp2_with fail
  go_ret
  exact ⟨rfl, HB.out⟩

end Go.Proofs.YtjciojoeifekeaaGreat
