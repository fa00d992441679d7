/- otherRegisters of seek: contract. -/
import Derived.Test.YtfmheeboogffeaaWth
import Derived.Test.YtfmheeboogffeaaSkB
import Derived.Test.YtfmheeboogffeaaOop
set_option linter.unusedVariables false
set_option linter.unusedSimpArgs false
namespace Go.Proofs.Ytfmheeboogffeaa
open Go.RowKit Go.Shelf Tinker

def regN (l : L) (k : Nat) : List L := (rgI 0 k).flatMap (regsTo l)
theorem regN_succ (l : L) (k : Nat) : regN l (k + 1) = regN l k ++ regsTo l (k : Int) := by
  unfold regN
  rw [rgI_succ, List.flatMap_append, Int.zero_add]
  simp
theorem regsTo_len (l : L) (r : Int) : (regsTo l r).length ≤ 3 := by
  unfold regsTo
  split <;> split <;> split <;> simp
theorem regN_len (l : L) : ∀ k, (regN l k).length ≤ 3 * k
  | 0 => by simp [regN, rgI]
  | k + 1 => by
    have := regN_len l k
    have := regsTo_len l (k : Int)
    rw [regN_succ, List.length_append]
    omega

set_option maxRecDepth 100000 in
set_option maxHeartbeats 8000000 in
theorem otherRegisters_any (l : L) (ww : World) : Calls Try.prog 30 #[lv l] ww (GivesLines (regsL l) ww) := by
  obtain ⟨i0, hi, hz0, hz1, hz2⟩ := info_parts info_line
  have HR := Lib.hid (fun w => readsTwo_any l w)
  obtain ⟨W0, hW0⟩ : ∃ W, W = ww.alloc (.cells (lV l) 23) := ⟨_, rfl⟩
  have hb2 : Below ww.heap.size ww W0 := by rw [hW0]; exact (Below.refl _ _).alloc (Nat.le_refl _) _
  have hbx : W0.heap[ww.heap.size]? = some (.cells (lV l) 23 (0, 0)) := by rw [hW0]; exact hp_new rfl
  obtain ⟨y0, y1, y2, y3⟩ := boxL_cells hbx
  have HBX := Lib.hid hbx
  have HBw := Lib.hid hb2
  clear hb2 hbx
  rw [show regsL l = regN l 4 from rfl]
  unfold lv at HR ⊢
  unfold lV at hW0
  by_cases hc : l.op = 7
  · have ht : two l = true := by unfold two; rw [hc]; rfl
    have e7 : (l.op != 7) = false := by simpa using hc
    have e2 : (l.op == 2) = false := by simp; omega
    rw [ht] at HR
    have HReg := Lib.hid (show ∀ r : Int, regsTo l r = [] ++ ([⟨l.op, l.to, r, l.b⟩] ++ [⟨l.op, l.to, l.a, r⟩]) from fun r => by unfold regsTo; rw [if_pos hc, if_pos (Or.inr ht), if_pos ht])
    clear hc
    go_enter Try.func30, Try.ntmps30
    rw [hW0] at y0 y1 y2 y3
    go_wp2_with fail
    rw [← hW0] at y0 y1 y2 y3 ⊢
    clear hW0 y0 y1 y2 y3
    go_loopw [3, 5] (fun s3 s5 wr => ∃ k : Nat, k ≤ 4 ∧ s5 = .int .i64 k ∧ wr.ownsRow W0.heap.size 23 4 s3 (regN l k).length (lc (regN l k)) ∧ Below W0.heap.size W0 wr) (fun _ s5 _ => 4 - (intOf s5).toNat)
    case atStart => exact ⟨0, by omega, rfl, World.ownsRow_nil _ _ _ _, Below.refl _ _⟩
    case round =>
      obtain ⟨k, hk, rfl, hO, hB⟩ := hrel
      by_cases hlt : k < 4
      · have HTo := Lib.hid (fun w => withTo_any l (k : Int) w)
        have HA := Lib.hid (fun w => withA_any l (k : Int) w)
        have HB_ := Lib.hid (fun w => withB_any l (k : Int) w)
        unfold lv at HTo HA HB_
        have HN := Lib.hid (regN_succ l k)
        have hl0 := regN_len l k
        generalize regN l k = P0 at *
        obtain ⟨va0, vc0, rfl⟩ := own_slice hO
        have HO := Lib.hid hO
        have HB := Lib.hid hB
        clear hO hB
        obtain ⟨x0, x1, x2, x3⟩ := boxL_cells (hp_below HBX.out HB.out (hp_lt HBX.out))
        go_wp2_with fail
        refine (HR.out _).mono ?_
        rintro e wc ⟨rfl, hB⟩
        have HO := Lib.hid (own_below HO.out hB (Nat.le_refl _))
        have HB := Lib.hid (HB.out.trans (hB.mono HB.out.size))
        clear hB x0 x1 x2 x3
        obtain ⟨x0, x1, x2, x3⟩ := boxL_cells (hp_below HBX.out HB.out (hp_lt HBX.out))
        go_wp2_with fail
        refine (HA.out _).mono ?_
        rintro e wc ⟨rfl, hB⟩
        have HO := Lib.hid (own_below HO.out hB (Nat.le_refl _))
        have HB := Lib.hid (HB.out.trans (hB.mono HB.out.size))
        clear hB x0 x1 x2 x3
        obtain ⟨W, hW⟩ : ∃ W, W = wc := ⟨_, rfl⟩
        subst hW
        have hal2 : Below W.heap.size W (W.alloc (.cells (lV ⟨l.op, l.to, (k : Int), l.b⟩) 23)) := (Below.refl _ _).alloc (Nat.le_refl _) _
        have HO2 := Lib.hid (own_below HO.out hal2 (Nat.le_refl _))
        have HB2 := Lib.hid (HB.out.trans (hal2.mono HB.out.size))
        have HC := Lib.hid (cells_newL W ⟨l.op, l.to, (k : Int), l.b⟩)
        unfold lV at HO2 HB2 HC
        clear hal2
        go_wp2_with (at_builtin; (refine wpList_append_own _ rfl (.tmp 24) (.tmp 28) 29 rfl W0.heap.size 23 i0 (.agg #[.int .i64 0, .int .i64 0, .int .i64 0, .int .i64 0]) 4 32 Try.underlying29 hi hz0 hz1 hz2 rfl (by decide) (.slice va0 P0.length vc0) P0.length (lc P0) rfl HO2.out ⟨W.heap.size, 0, none⟩ 1 1 (lc [⟨l.op, l.to, (k : Int), l.b⟩]) rfl ?c1 ?c2 ?c3 ?c4 ?c5 ?c6 ?_))
        case c1 => rfl
        case c2 => first | exact HC.out | exact fun _ _ h => h
        case c3 => exact lc_one _
        case c4 => simp [maxLen]; omega
        case c5 => omega
        case c6 => first | exact HB2.out.size | (have := HB2.out.size; simpa using this)
        intro v' w2 hown hgrow _
        have HB3 := Lib.hid (HB2.out.grown hgrow HB2.out.size (by rintro k hk; exact (HO2.out.lt k hk).1))
        obtain ⟨P1, hQ⟩ : ∃ Q, Q = P0 ++ [⟨l.op, l.to, (k : Int), l.b⟩] := ⟨_, rfl⟩
        have HQ1 := Lib.hid hQ
        have hl1 : P1.length ≤ P0.length + 1 := by rw [hQ, List.length_append]; exact Nat.le_refl _
        have hO3 : w2.ownsRow W0.heap.size 23 4 v' P1.length (lc P1) := by rw [hQ, List.length_append]; exact lines_snoc hown
        obtain ⟨va1, vc1, rfl⟩ := own_slice hO3
        have HO := Lib.hid hO3
        have HB := Lib.hid HB3.out
        clear hown hgrow hO3 hQ HO2 HB2 HB3 HC
        obtain ⟨x0, x1, x2, x3⟩ := boxL_cells (hp_below HBX.out HB.out (hp_lt HBX.out))
        go_wp2_with fail
        refine (HR.out _).mono ?_
        rintro e wc ⟨rfl, hB⟩
        have HO := Lib.hid (own_below HO.out hB (Nat.le_refl _))
        have HB := Lib.hid (HB.out.trans (hB.mono HB.out.size))
        clear hB x0 x1 x2 x3
        obtain ⟨x0, x1, x2, x3⟩ := boxL_cells (hp_below HBX.out HB.out (hp_lt HBX.out))
        go_wp2_with fail
        refine (HB_.out _).mono ?_
        rintro e wc ⟨rfl, hB⟩
        have HO := Lib.hid (own_below HO.out hB (Nat.le_refl _))
        have HB := Lib.hid (HB.out.trans (hB.mono HB.out.size))
        clear hB x0 x1 x2 x3
        obtain ⟨W, hW⟩ : ∃ W, W = wc := ⟨_, rfl⟩
        subst hW
        have hal2 : Below W.heap.size W (W.alloc (.cells (lV ⟨l.op, l.to, l.a, (k : Int)⟩) 23)) := (Below.refl _ _).alloc (Nat.le_refl _) _
        have HO2 := Lib.hid (own_below HO.out hal2 (Nat.le_refl _))
        have HB2 := Lib.hid (HB.out.trans (hal2.mono HB.out.size))
        have HC := Lib.hid (cells_newL W ⟨l.op, l.to, l.a, (k : Int)⟩)
        unfold lV at HO2 HB2 HC
        clear hal2
        go_wp2_with (at_builtin; (refine wpList_append_own _ rfl (.tmp 32) (.tmp 36) 29 rfl W0.heap.size 23 i0 (.agg #[.int .i64 0, .int .i64 0, .int .i64 0, .int .i64 0]) 4 32 Try.underlying29 hi hz0 hz1 hz2 rfl (by decide) (.slice va1 P1.length vc1) P1.length (lc P1) rfl HO2.out ⟨W.heap.size, 0, none⟩ 1 1 (lc [⟨l.op, l.to, l.a, (k : Int)⟩]) rfl ?c1 ?c2 ?c3 ?c4 ?c5 ?c6 ?_))
        case c1 => rfl
        case c2 => first | exact HC.out | exact fun _ _ h => h
        case c3 => exact lc_one _
        case c4 => simp [maxLen]; omega
        case c5 => omega
        case c6 => first | exact HB2.out.size | (have := HB2.out.size; simpa using this)
        intro v' w2 hown hgrow _
        have HB3 := Lib.hid (HB2.out.grown hgrow HB2.out.size (by rintro k hk; exact (HO2.out.lt k hk).1))
        obtain ⟨P2, hQ⟩ : ∃ Q, Q = P1 ++ [⟨l.op, l.to, l.a, (k : Int)⟩] := ⟨_, rfl⟩
        have HQ2 := Lib.hid hQ
        have hl2 : P2.length ≤ P1.length + 1 := by rw [hQ, List.length_append]; exact Nat.le_refl _
        have hO3 : w2.ownsRow W0.heap.size 23 4 v' P2.length (lc P2) := by rw [hQ, List.length_append]; exact lines_snoc hown
        obtain ⟨va2, vc2, rfl⟩ := own_slice hO3
        have HO := Lib.hid hO3
        have HB := Lib.hid HB3.out
        clear hown hgrow hO3 hQ HO2 HB2 HB3 HC
        obtain ⟨x0, x1, x2, x3⟩ := boxL_cells (hp_below HBX.out HB.out (hp_lt HBX.out))
        go_wp2_with fail
        go_roundw
        case rel =>
          have hq : P0 ++ regsTo l (k : Int) = P2 := by rw [HReg.out (k : Int)]; simp only [List.append_assoc, List.cons_append, List.nil_append, List.append_nil, HQ2.out, HQ1.out]
          exact ⟨k + 1, by omega, by go_num, by rw [HN.out, hq]; exact HO.out, HB.out⟩
        case measure => simp [intOf]; omega
      · obtain rfl : k = 4 := by omega
        have HO := Lib.hid hO
        have HB := Lib.hid hB
        clear hO hB
        go_wp2_with fail
        go_ret
        exact givesLines_of rfl (own_mono HO.out HBw.out.size) (HBw.out.trans (HB.out.mono HBw.out.size))
  have e7 : (l.op != 7) = true := by simpa using hc
  by_cases h2 : l.op = 2
  · have ht : two l = false := by unfold two; rw [h2]; rfl
    have e2 : (l.op == 2) = true := by simpa using h2
    rw [ht] at HR
    have HReg := Lib.hid (show ∀ r : Int, regsTo l r = [⟨l.op, r, l.a, l.b⟩] ++ ([⟨l.op, l.to, r, l.b⟩] ++ []) from fun r => by unfold regsTo; rw [if_neg hc, if_pos (Or.inl h2), if_neg (by rw [ht]; decide)])
    clear hc h2
    go_enter Try.func30, Try.ntmps30
    rw [hW0] at y0 y1 y2 y3
    go_wp2_with fail
    rw [← hW0] at y0 y1 y2 y3 ⊢
    clear hW0 y0 y1 y2 y3
    go_loopw [3, 5] (fun s3 s5 wr => ∃ k : Nat, k ≤ 4 ∧ s5 = .int .i64 k ∧ wr.ownsRow W0.heap.size 23 4 s3 (regN l k).length (lc (regN l k)) ∧ Below W0.heap.size W0 wr) (fun _ s5 _ => 4 - (intOf s5).toNat)
    case atStart => exact ⟨0, by omega, rfl, World.ownsRow_nil _ _ _ _, Below.refl _ _⟩
    case round =>
      obtain ⟨k, hk, rfl, hO, hB⟩ := hrel
      by_cases hlt : k < 4
      · have HTo := Lib.hid (fun w => withTo_any l (k : Int) w)
        have HA := Lib.hid (fun w => withA_any l (k : Int) w)
        have HB_ := Lib.hid (fun w => withB_any l (k : Int) w)
        unfold lv at HTo HA HB_
        have HN := Lib.hid (regN_succ l k)
        have hl0 := regN_len l k
        generalize regN l k = P0 at *
        obtain ⟨va0, vc0, rfl⟩ := own_slice hO
        have HO := Lib.hid hO
        have HB := Lib.hid hB
        clear hO hB
        obtain ⟨x0, x1, x2, x3⟩ := boxL_cells (hp_below HBX.out HB.out (hp_lt HBX.out))
        go_wp2_with fail
        refine (HTo.out _).mono ?_
        rintro e wc ⟨rfl, hB⟩
        have HO := Lib.hid (own_below HO.out hB (Nat.le_refl _))
        have HB := Lib.hid (HB.out.trans (hB.mono HB.out.size))
        clear hB x0 x1 x2 x3
        obtain ⟨W, hW⟩ : ∃ W, W = wc := ⟨_, rfl⟩
        subst hW
        have hal2 : Below W.heap.size W (W.alloc (.cells (lV ⟨l.op, (k : Int), l.a, l.b⟩) 23)) := (Below.refl _ _).alloc (Nat.le_refl _) _
        have HO2 := Lib.hid (own_below HO.out hal2 (Nat.le_refl _))
        have HB2 := Lib.hid (HB.out.trans (hal2.mono HB.out.size))
        have HC := Lib.hid (cells_newL W ⟨l.op, (k : Int), l.a, l.b⟩)
        unfold lV at HO2 HB2 HC
        clear hal2
        go_wp2_with (at_builtin; (refine wpList_append_own _ rfl (.tmp 11) (.tmp 15) 29 rfl W0.heap.size 23 i0 (.agg #[.int .i64 0, .int .i64 0, .int .i64 0, .int .i64 0]) 4 32 Try.underlying29 hi hz0 hz1 hz2 rfl (by decide) (.slice va0 P0.length vc0) P0.length (lc P0) rfl HO2.out ⟨W.heap.size, 0, none⟩ 1 1 (lc [⟨l.op, (k : Int), l.a, l.b⟩]) rfl ?c1 ?c2 ?c3 ?c4 ?c5 ?c6 ?_))
        case c1 => rfl
        case c2 => first | exact HC.out | exact fun _ _ h => h
        case c3 => exact lc_one _
        case c4 => simp [maxLen]; omega
        case c5 => omega
        case c6 => first | exact HB2.out.size | (have := HB2.out.size; simpa using this)
        intro v' w2 hown hgrow _
        have HB3 := Lib.hid (HB2.out.grown hgrow HB2.out.size (by rintro k hk; exact (HO2.out.lt k hk).1))
        obtain ⟨P1, hQ⟩ : ∃ Q, Q = P0 ++ [⟨l.op, (k : Int), l.a, l.b⟩] := ⟨_, rfl⟩
        have HQ1 := Lib.hid hQ
        have hl1 : P1.length ≤ P0.length + 1 := by rw [hQ, List.length_append]; exact Nat.le_refl _
        have hO3 : w2.ownsRow W0.heap.size 23 4 v' P1.length (lc P1) := by rw [hQ, List.length_append]; exact lines_snoc hown
        obtain ⟨va1, vc1, rfl⟩ := own_slice hO3
        have HO := Lib.hid hO3
        have HB := Lib.hid HB3.out
        clear hown hgrow hO3 hQ HO2 HB2 HB3 HC
        obtain ⟨x0, x1, x2, x3⟩ := boxL_cells (hp_below HBX.out HB.out (hp_lt HBX.out))
        go_wp2_with fail
        refine (HA.out _).mono ?_
        rintro e wc ⟨rfl, hB⟩
        have HO := Lib.hid (own_below HO.out hB (Nat.le_refl _))
        have HB := Lib.hid (HB.out.trans (hB.mono HB.out.size))
        clear hB x0 x1 x2 x3
        obtain ⟨W, hW⟩ : ∃ W, W = wc := ⟨_, rfl⟩
        subst hW
        have hal2 : Below W.heap.size W (W.alloc (.cells (lV ⟨l.op, l.to, (k : Int), l.b⟩) 23)) := (Below.refl _ _).alloc (Nat.le_refl _) _
        have HO2 := Lib.hid (own_below HO.out hal2 (Nat.le_refl _))
        have HB2 := Lib.hid (HB.out.trans (hal2.mono HB.out.size))
        have HC := Lib.hid (cells_newL W ⟨l.op, l.to, (k : Int), l.b⟩)
        unfold lV at HO2 HB2 HC
        clear hal2
        go_wp2_with (at_builtin; (refine wpList_append_own _ rfl (.tmp 24) (.tmp 28) 29 rfl W0.heap.size 23 i0 (.agg #[.int .i64 0, .int .i64 0, .int .i64 0, .int .i64 0]) 4 32 Try.underlying29 hi hz0 hz1 hz2 rfl (by decide) (.slice va1 P1.length vc1) P1.length (lc P1) rfl HO2.out ⟨W.heap.size, 0, none⟩ 1 1 (lc [⟨l.op, l.to, (k : Int), l.b⟩]) rfl ?c1 ?c2 ?c3 ?c4 ?c5 ?c6 ?_))
        case c1 => rfl
        case c2 => first | exact HC.out | exact fun _ _ h => h
        case c3 => exact lc_one _
        case c4 => simp [maxLen]; omega
        case c5 => omega
        case c6 => first | exact HB2.out.size | (have := HB2.out.size; simpa using this)
        intro v' w2 hown hgrow _
        have HB3 := Lib.hid (HB2.out.grown hgrow HB2.out.size (by rintro k hk; exact (HO2.out.lt k hk).1))
        obtain ⟨P2, hQ⟩ : ∃ Q, Q = P1 ++ [⟨l.op, l.to, (k : Int), l.b⟩] := ⟨_, rfl⟩
        have HQ2 := Lib.hid hQ
        have hl2 : P2.length ≤ P1.length + 1 := by rw [hQ, List.length_append]; exact Nat.le_refl _
        have hO3 : w2.ownsRow W0.heap.size 23 4 v' P2.length (lc P2) := by rw [hQ, List.length_append]; exact lines_snoc hown
        obtain ⟨va2, vc2, rfl⟩ := own_slice hO3
        have HO := Lib.hid hO3
        have HB := Lib.hid HB3.out
        clear hown hgrow hO3 hQ HO2 HB2 HB3 HC
        obtain ⟨x0, x1, x2, x3⟩ := boxL_cells (hp_below HBX.out HB.out (hp_lt HBX.out))
        go_wp2_with fail
        refine (HR.out _).mono ?_
        rintro e wc ⟨rfl, hB⟩
        have HO := Lib.hid (own_below HO.out hB (Nat.le_refl _))
        have HB := Lib.hid (HB.out.trans (hB.mono HB.out.size))
        clear hB x0 x1 x2 x3
        obtain ⟨x0, x1, x2, x3⟩ := boxL_cells (hp_below HBX.out HB.out (hp_lt HBX.out))
        go_wp2_with fail
        go_roundw
        case rel =>
          have hq : P0 ++ regsTo l (k : Int) = P2 := by rw [HReg.out (k : Int)]; simp only [List.append_assoc, List.cons_append, List.nil_append, List.append_nil, HQ2.out, HQ1.out]
          exact ⟨k + 1, by omega, by go_num, by rw [HN.out, hq]; exact HO.out, HB.out⟩
        case measure => simp [intOf]; omega
      · obtain rfl : k = 4 := by omega
        have HO := Lib.hid hO
        have HB := Lib.hid hB
        clear hO hB
        go_wp2_with fail
        go_ret
        exact givesLines_of rfl (own_mono HO.out HBw.out.size) (HBw.out.trans (HB.out.mono HBw.out.size))
  have e2 : (l.op == 2) = false := by simpa using h2
  cases ht : two l
  · rw [ht] at HR
    have HReg := Lib.hid (show ∀ r : Int, regsTo l r = [⟨l.op, r, l.a, l.b⟩] ++ ([] ++ []) from fun r => by unfold regsTo; rw [if_neg hc, if_neg (by rw [ht]; simp [h2]), if_neg (by rw [ht]; decide)])
    clear hc
    go_enter Try.func30, Try.ntmps30
    rw [hW0] at y0 y1 y2 y3
    go_wp2_with fail
    rw [← hW0] at y0 y1 y2 y3 ⊢
    clear hW0 y0 y1 y2 y3
    go_loopw [3, 5] (fun s3 s5 wr => ∃ k : Nat, k ≤ 4 ∧ s5 = .int .i64 k ∧ wr.ownsRow W0.heap.size 23 4 s3 (regN l k).length (lc (regN l k)) ∧ Below W0.heap.size W0 wr) (fun _ s5 _ => 4 - (intOf s5).toNat)
    case atStart => exact ⟨0, by omega, rfl, World.ownsRow_nil _ _ _ _, Below.refl _ _⟩
    case round =>
      obtain ⟨k, hk, rfl, hO, hB⟩ := hrel
      by_cases hlt : k < 4
      · have HTo := Lib.hid (fun w => withTo_any l (k : Int) w)
        have HA := Lib.hid (fun w => withA_any l (k : Int) w)
        have HB_ := Lib.hid (fun w => withB_any l (k : Int) w)
        unfold lv at HTo HA HB_
        have HN := Lib.hid (regN_succ l k)
        have hl0 := regN_len l k
        generalize regN l k = P0 at *
        obtain ⟨va0, vc0, rfl⟩ := own_slice hO
        have HO := Lib.hid hO
        have HB := Lib.hid hB
        clear hO hB
        obtain ⟨x0, x1, x2, x3⟩ := boxL_cells (hp_below HBX.out HB.out (hp_lt HBX.out))
        go_wp2_with fail
        refine (HTo.out _).mono ?_
        rintro e wc ⟨rfl, hB⟩
        have HO := Lib.hid (own_below HO.out hB (Nat.le_refl _))
        have HB := Lib.hid (HB.out.trans (hB.mono HB.out.size))
        clear hB x0 x1 x2 x3
        obtain ⟨W, hW⟩ : ∃ W, W = wc := ⟨_, rfl⟩
        subst hW
        have hal2 : Below W.heap.size W (W.alloc (.cells (lV ⟨l.op, (k : Int), l.a, l.b⟩) 23)) := (Below.refl _ _).alloc (Nat.le_refl _) _
        have HO2 := Lib.hid (own_below HO.out hal2 (Nat.le_refl _))
        have HB2 := Lib.hid (HB.out.trans (hal2.mono HB.out.size))
        have HC := Lib.hid (cells_newL W ⟨l.op, (k : Int), l.a, l.b⟩)
        unfold lV at HO2 HB2 HC
        clear hal2
        go_wp2_with (at_builtin; (refine wpList_append_own _ rfl (.tmp 11) (.tmp 15) 29 rfl W0.heap.size 23 i0 (.agg #[.int .i64 0, .int .i64 0, .int .i64 0, .int .i64 0]) 4 32 Try.underlying29 hi hz0 hz1 hz2 rfl (by decide) (.slice va0 P0.length vc0) P0.length (lc P0) rfl HO2.out ⟨W.heap.size, 0, none⟩ 1 1 (lc [⟨l.op, (k : Int), l.a, l.b⟩]) rfl ?c1 ?c2 ?c3 ?c4 ?c5 ?c6 ?_))
        case c1 => rfl
        case c2 => first | exact HC.out | exact fun _ _ h => h
        case c3 => exact lc_one _
        case c4 => simp [maxLen]; omega
        case c5 => omega
        case c6 => first | exact HB2.out.size | (have := HB2.out.size; simpa using this)
        intro v' w2 hown hgrow _
        have HB3 := Lib.hid (HB2.out.grown hgrow HB2.out.size (by rintro k hk; exact (HO2.out.lt k hk).1))
        obtain ⟨P1, hQ⟩ : ∃ Q, Q = P0 ++ [⟨l.op, (k : Int), l.a, l.b⟩] := ⟨_, rfl⟩
        have HQ1 := Lib.hid hQ
        have hl1 : P1.length ≤ P0.length + 1 := by rw [hQ, List.length_append]; exact Nat.le_refl _
        have hO3 : w2.ownsRow W0.heap.size 23 4 v' P1.length (lc P1) := by rw [hQ, List.length_append]; exact lines_snoc hown
        obtain ⟨va1, vc1, rfl⟩ := own_slice hO3
        have HO := Lib.hid hO3
        have HB := Lib.hid HB3.out
        clear hown hgrow hO3 hQ HO2 HB2 HB3 HC
        obtain ⟨x0, x1, x2, x3⟩ := boxL_cells (hp_below HBX.out HB.out (hp_lt HBX.out))
        go_wp2_with fail
        refine (HR.out _).mono ?_
        rintro e wc ⟨rfl, hB⟩
        have HO := Lib.hid (own_below HO.out hB (Nat.le_refl _))
        have HB := Lib.hid (HB.out.trans (hB.mono HB.out.size))
        clear hB x0 x1 x2 x3
        obtain ⟨x0, x1, x2, x3⟩ := boxL_cells (hp_below HBX.out HB.out (hp_lt HBX.out))
        go_wp2_with fail
        refine (HR.out _).mono ?_
        rintro e wc ⟨rfl, hB⟩
        have HO := Lib.hid (own_below HO.out hB (Nat.le_refl _))
        have HB := Lib.hid (HB.out.trans (hB.mono HB.out.size))
        clear hB x0 x1 x2 x3
        obtain ⟨x0, x1, x2, x3⟩ := boxL_cells (hp_below HBX.out HB.out (hp_lt HBX.out))
        go_wp2_with fail
        go_roundw
        case rel =>
          have hq : P0 ++ regsTo l (k : Int) = P1 := by rw [HReg.out (k : Int)]; simp only [List.append_assoc, List.cons_append, List.nil_append, List.append_nil, HQ1.out]
          exact ⟨k + 1, by omega, by go_num, by rw [HN.out, hq]; exact HO.out, HB.out⟩
        case measure => simp [intOf]; omega
      · obtain rfl : k = 4 := by omega
        have HO := Lib.hid hO
        have HB := Lib.hid hB
        clear hO hB
        go_wp2_with fail
        go_ret
        exact givesLines_of rfl (own_mono HO.out HBw.out.size) (HBw.out.trans (HB.out.mono HBw.out.size))
  · rw [ht] at HR
    have HReg := Lib.hid (show ∀ r : Int, regsTo l r = [⟨l.op, r, l.a, l.b⟩] ++ ([⟨l.op, l.to, r, l.b⟩] ++ [⟨l.op, l.to, l.a, r⟩]) from fun r => by unfold regsTo; rw [if_neg hc, if_pos (Or.inr ht), if_pos ht])
    clear hc
    go_enter Try.func30, Try.ntmps30
    rw [hW0] at y0 y1 y2 y3
    go_wp2_with fail
    rw [← hW0] at y0 y1 y2 y3 ⊢
    clear hW0 y0 y1 y2 y3
    go_loopw [3, 5] (fun s3 s5 wr => ∃ k : Nat, k ≤ 4 ∧ s5 = .int .i64 k ∧ wr.ownsRow W0.heap.size 23 4 s3 (regN l k).length (lc (regN l k)) ∧ Below W0.heap.size W0 wr) (fun _ s5 _ => 4 - (intOf s5).toNat)
    case atStart => exact ⟨0, by omega, rfl, World.ownsRow_nil _ _ _ _, Below.refl _ _⟩
    case round =>
      obtain ⟨k, hk, rfl, hO, hB⟩ := hrel
      by_cases hlt : k < 4
      · have HTo := Lib.hid (fun w => withTo_any l (k : Int) w)
        have HA := Lib.hid (fun w => withA_any l (k : Int) w)
        have HB_ := Lib.hid (fun w => withB_any l (k : Int) w)
        unfold lv at HTo HA HB_
        have HN := Lib.hid (regN_succ l k)
        have hl0 := regN_len l k
        generalize regN l k = P0 at *
        obtain ⟨va0, vc0, rfl⟩ := own_slice hO
        have HO := Lib.hid hO
        have HB := Lib.hid hB
        clear hO hB
        obtain ⟨x0, x1, x2, x3⟩ := boxL_cells (hp_below HBX.out HB.out (hp_lt HBX.out))
        go_wp2_with fail
        refine (HTo.out _).mono ?_
        rintro e wc ⟨rfl, hB⟩
        have HO := Lib.hid (own_below HO.out hB (Nat.le_refl _))
        have HB := Lib.hid (HB.out.trans (hB.mono HB.out.size))
        clear hB x0 x1 x2 x3
        obtain ⟨W, hW⟩ : ∃ W, W = wc := ⟨_, rfl⟩
        subst hW
        have hal2 : Below W.heap.size W (W.alloc (.cells (lV ⟨l.op, (k : Int), l.a, l.b⟩) 23)) := (Below.refl _ _).alloc (Nat.le_refl _) _
        have HO2 := Lib.hid (own_below HO.out hal2 (Nat.le_refl _))
        have HB2 := Lib.hid (HB.out.trans (hal2.mono HB.out.size))
        have HC := Lib.hid (cells_newL W ⟨l.op, (k : Int), l.a, l.b⟩)
        unfold lV at HO2 HB2 HC
        clear hal2
        go_wp2_with (at_builtin; (refine wpList_append_own _ rfl (.tmp 11) (.tmp 15) 29 rfl W0.heap.size 23 i0 (.agg #[.int .i64 0, .int .i64 0, .int .i64 0, .int .i64 0]) 4 32 Try.underlying29 hi hz0 hz1 hz2 rfl (by decide) (.slice va0 P0.length vc0) P0.length (lc P0) rfl HO2.out ⟨W.heap.size, 0, none⟩ 1 1 (lc [⟨l.op, (k : Int), l.a, l.b⟩]) rfl ?c1 ?c2 ?c3 ?c4 ?c5 ?c6 ?_))
        case c1 => rfl
        case c2 => first | exact HC.out | exact fun _ _ h => h
        case c3 => exact lc_one _
        case c4 => simp [maxLen]; omega
        case c5 => omega
        case c6 => first | exact HB2.out.size | (have := HB2.out.size; simpa using this)
        intro v' w2 hown hgrow _
        have HB3 := Lib.hid (HB2.out.grown hgrow HB2.out.size (by rintro k hk; exact (HO2.out.lt k hk).1))
        obtain ⟨P1, hQ⟩ : ∃ Q, Q = P0 ++ [⟨l.op, (k : Int), l.a, l.b⟩] := ⟨_, rfl⟩
        have HQ1 := Lib.hid hQ
        have hl1 : P1.length ≤ P0.length + 1 := by rw [hQ, List.length_append]; exact Nat.le_refl _
        have hO3 : w2.ownsRow W0.heap.size 23 4 v' P1.length (lc P1) := by rw [hQ, List.length_append]; exact lines_snoc hown
        obtain ⟨va1, vc1, rfl⟩ := own_slice hO3
        have HO := Lib.hid hO3
        have HB := Lib.hid HB3.out
        clear hown hgrow hO3 hQ HO2 HB2 HB3 HC
        obtain ⟨x0, x1, x2, x3⟩ := boxL_cells (hp_below HBX.out HB.out (hp_lt HBX.out))
        go_wp2_with fail
        refine (HR.out _).mono ?_
        rintro e wc ⟨rfl, hB⟩
        have HO := Lib.hid (own_below HO.out hB (Nat.le_refl _))
        have HB := Lib.hid (HB.out.trans (hB.mono HB.out.size))
        clear hB x0 x1 x2 x3
        obtain ⟨x0, x1, x2, x3⟩ := boxL_cells (hp_below HBX.out HB.out (hp_lt HBX.out))
        go_wp2_with fail
        refine (HA.out _).mono ?_
        rintro e wc ⟨rfl, hB⟩
        have HO := Lib.hid (own_below HO.out hB (Nat.le_refl _))
        have HB := Lib.hid (HB.out.trans (hB.mono HB.out.size))
        clear hB x0 x1 x2 x3
        obtain ⟨W, hW⟩ : ∃ W, W = wc := ⟨_, rfl⟩
        subst hW
        have hal2 : Below W.heap.size W (W.alloc (.cells (lV ⟨l.op, l.to, (k : Int), l.b⟩) 23)) := (Below.refl _ _).alloc (Nat.le_refl _) _
        have HO2 := Lib.hid (own_below HO.out hal2 (Nat.le_refl _))
        have HB2 := Lib.hid (HB.out.trans (hal2.mono HB.out.size))
        have HC := Lib.hid (cells_newL W ⟨l.op, l.to, (k : Int), l.b⟩)
        unfold lV at HO2 HB2 HC
        clear hal2
        go_wp2_with (at_builtin; (refine wpList_append_own _ rfl (.tmp 24) (.tmp 28) 29 rfl W0.heap.size 23 i0 (.agg #[.int .i64 0, .int .i64 0, .int .i64 0, .int .i64 0]) 4 32 Try.underlying29 hi hz0 hz1 hz2 rfl (by decide) (.slice va1 P1.length vc1) P1.length (lc P1) rfl HO2.out ⟨W.heap.size, 0, none⟩ 1 1 (lc [⟨l.op, l.to, (k : Int), l.b⟩]) rfl ?c1 ?c2 ?c3 ?c4 ?c5 ?c6 ?_))
        case c1 => rfl
        case c2 => first | exact HC.out | exact fun _ _ h => h
        case c3 => exact lc_one _
        case c4 => simp [maxLen]; omega
        case c5 => omega
        case c6 => first | exact HB2.out.size | (have := HB2.out.size; simpa using this)
        intro v' w2 hown hgrow _
        have HB3 := Lib.hid (HB2.out.grown hgrow HB2.out.size (by rintro k hk; exact (HO2.out.lt k hk).1))
        obtain ⟨P2, hQ⟩ : ∃ Q, Q = P1 ++ [⟨l.op, l.to, (k : Int), l.b⟩] := ⟨_, rfl⟩
        have HQ2 := Lib.hid hQ
        have hl2 : P2.length ≤ P1.length + 1 := by rw [hQ, List.length_append]; exact Nat.le_refl _
        have hO3 : w2.ownsRow W0.heap.size 23 4 v' P2.length (lc P2) := by rw [hQ, List.length_append]; exact lines_snoc hown
        obtain ⟨va2, vc2, rfl⟩ := own_slice hO3
        have HO := Lib.hid hO3
        have HB := Lib.hid HB3.out
        clear hown hgrow hO3 hQ HO2 HB2 HB3 HC
        obtain ⟨x0, x1, x2, x3⟩ := boxL_cells (hp_below HBX.out HB.out (hp_lt HBX.out))
        go_wp2_with fail
        refine (HR.out _).mono ?_
        rintro e wc ⟨rfl, hB⟩
        have HO := Lib.hid (own_below HO.out hB (Nat.le_refl _))
        have HB := Lib.hid (HB.out.trans (hB.mono HB.out.size))
        clear hB x0 x1 x2 x3
        obtain ⟨x0, x1, x2, x3⟩ := boxL_cells (hp_below HBX.out HB.out (hp_lt HBX.out))
        go_wp2_with fail
        refine (HB_.out _).mono ?_
        rintro e wc ⟨rfl, hB⟩
        have HO := Lib.hid (own_below HO.out hB (Nat.le_refl _))
        have HB := Lib.hid (HB.out.trans (hB.mono HB.out.size))
        clear hB x0 x1 x2 x3
        obtain ⟨W, hW⟩ : ∃ W, W = wc := ⟨_, rfl⟩
        subst hW
        have hal2 : Below W.heap.size W (W.alloc (.cells (lV ⟨l.op, l.to, l.a, (k : Int)⟩) 23)) := (Below.refl _ _).alloc (Nat.le_refl _) _
        have HO2 := Lib.hid (own_below HO.out hal2 (Nat.le_refl _))
        have HB2 := Lib.hid (HB.out.trans (hal2.mono HB.out.size))
        have HC := Lib.hid (cells_newL W ⟨l.op, l.to, l.a, (k : Int)⟩)
        unfold lV at HO2 HB2 HC
        clear hal2
        go_wp2_with (at_builtin; (refine wpList_append_own _ rfl (.tmp 32) (.tmp 36) 29 rfl W0.heap.size 23 i0 (.agg #[.int .i64 0, .int .i64 0, .int .i64 0, .int .i64 0]) 4 32 Try.underlying29 hi hz0 hz1 hz2 rfl (by decide) (.slice va2 P2.length vc2) P2.length (lc P2) rfl HO2.out ⟨W.heap.size, 0, none⟩ 1 1 (lc [⟨l.op, l.to, l.a, (k : Int)⟩]) rfl ?c1 ?c2 ?c3 ?c4 ?c5 ?c6 ?_))
        case c1 => rfl
        case c2 => first | exact HC.out | exact fun _ _ h => h
        case c3 => exact lc_one _
        case c4 => simp [maxLen]; omega
        case c5 => omega
        case c6 => first | exact HB2.out.size | (have := HB2.out.size; simpa using this)
        intro v' w2 hown hgrow _
        have HB3 := Lib.hid (HB2.out.grown hgrow HB2.out.size (by rintro k hk; exact (HO2.out.lt k hk).1))
        obtain ⟨P3, hQ⟩ : ∃ Q, Q = P2 ++ [⟨l.op, l.to, l.a, (k : Int)⟩] := ⟨_, rfl⟩
        have HQ3 := Lib.hid hQ
        have hl3 : P3.length ≤ P2.length + 1 := by rw [hQ, List.length_append]; exact Nat.le_refl _
        have hO3 : w2.ownsRow W0.heap.size 23 4 v' P3.length (lc P3) := by rw [hQ, List.length_append]; exact lines_snoc hown
        obtain ⟨va3, vc3, rfl⟩ := own_slice hO3
        have HO := Lib.hid hO3
        have HB := Lib.hid HB3.out
        clear hown hgrow hO3 hQ HO2 HB2 HB3 HC
        obtain ⟨x0, x1, x2, x3⟩ := boxL_cells (hp_below HBX.out HB.out (hp_lt HBX.out))
        go_wp2_with fail
        go_roundw
        case rel =>
          have hq : P0 ++ regsTo l (k : Int) = P3 := by rw [HReg.out (k : Int)]; simp only [List.append_assoc, List.cons_append, List.nil_append, List.append_nil, HQ3.out, HQ2.out, HQ1.out]
          exact ⟨k + 1, by omega, by go_num, by rw [HN.out, hq]; exact HO.out, HB.out⟩
        case measure => simp [intOf]; omega
      · obtain rfl : k = 4 := by omega
        have HO := Lib.hid hO
        have HB := Lib.hid hB
        clear hO hB
        go_wp2_with fail
        go_ret
        exact givesLines_of rfl (own_mono HO.out HBw.out.size) (HBw.out.trans (HB.out.mono HBw.out.size))

end Go.Proofs.Ytfmheeboogffeaa
