/- Several texts in one. -/
import Derived.Test.YtfclfmloceddfaaGreatSkB
import Derived.Test.YtfclfmloceddfaaGreatEdM
import Derived.BigQuiet
import Derived.Deep.QuietTactic
/- All lines: contract of the document's side. -/
set_option linter.unusedVariables false
set_option linter.unusedSimpArgs false
namespace Go.Proofs.YtfclfmloceddfaaGreat
open Go.RowKit Tinker

def dr1 (tq : Int) (k : Nat) : List L := (rgI (-9) k).map fun a => ⟨1, tq, a, 0⟩
def drs1 (k : Nat) : List L := (rgI 0 k).flatMap fun tq => dr1 tq 19
def dr2 (tq : Int) (k : Nat) : List L := (rgI 0 k).map fun a => ⟨2, tq, a, 0⟩
def drs2 (k : Nat) : List L := (rgI 0 k).flatMap fun tq => dr2 tq 4
def rowB (op tq a : Int) (k : Nat) : List L := (rgI 0 k).map fun b => ⟨op, tq, a, b⟩
def rowA (op tq : Int) (k : Nat) : List L := (rgI 0 k).flatMap fun a => rowB op tq a 4
def rowT (op lo : Int) (k : Nat) : List L := (rgI lo k).flatMap fun tq => rowA op tq 4
def loOf (op : Int) : Int := if op = 7 then 1 else 0
def nOf (op : Int) : Nat := if op = 7 then 8 else 4
def rowsO (k : Nat) : List L := (rgI 3 k).flatMap fun op => rowT op (loOf op) (nOf op)
theorem dr1_succ (tq : Int) (k : Nat) : dr1 tq (k + 1) = dr1 tq k ++ [⟨1, tq, -9 + (k : Int), 0⟩] := by unfold dr1; rw [rgI_succ, List.map_append]; rfl
theorem drs1_succ (k : Nat) : drs1 (k + 1) = drs1 k ++ dr1 (k : Int) 19 := by unfold drs1; rw [rgI_succ, List.flatMap_append, Int.zero_add]; simp
theorem dr2_succ (tq : Int) (k : Nat) : dr2 tq (k + 1) = dr2 tq k ++ [⟨2, tq, (k : Int), 0⟩] := by unfold dr2; rw [rgI_succ, List.map_append, Int.zero_add]; rfl
theorem drs2_succ (k : Nat) : drs2 (k + 1) = drs2 k ++ dr2 (k : Int) 4 := by unfold drs2; rw [rgI_succ, List.flatMap_append, Int.zero_add]; simp
theorem rowB_succ (op tq a : Int) (k : Nat) : rowB op tq a (k + 1) = rowB op tq a k ++ [⟨op, tq, a, (k : Int)⟩] := by unfold rowB; rw [rgI_succ, List.map_append, Int.zero_add]; rfl
theorem rowA_succ (op tq : Int) (k : Nat) : rowA op tq (k + 1) = rowA op tq k ++ rowB op tq (k : Int) 4 := by unfold rowA; rw [rgI_succ, List.flatMap_append, Int.zero_add]; simp
theorem rowT_succ (op lo : Int) (k : Nat) : rowT op lo (k + 1) = rowT op lo k ++ rowA op (lo + (k : Int)) 4 := by unfold rowT; rw [rgI_succ, List.flatMap_append]; simp
theorem rowsO_succ (k : Nat) : rowsO (k + 1) = rowsO k ++ rowT (3 + (k : Int)) (loOf (3 + (k : Int))) (nOf (3 + (k : Int))) := by unfold rowsO; rw [rgI_succ, List.flatMap_append]; simp
theorem dr1_len (tq : Int) (k : Nat) : (dr1 tq k).length = k := by unfold dr1; rw [List.length_map, rg_len]
theorem dr2_len (tq : Int) (k : Nat) : (dr2 tq k).length = k := by unfold dr2; rw [List.length_map, rg_len]
theorem rowB_len (op tq a : Int) (k : Nat) : (rowB op tq a k).length = k := by unfold rowB; rw [List.length_map, rg_len]
theorem drs1_len : ∀ k, (drs1 k).length ≤ 19 * k
  | 0 => by simp [drs1, rgI]
  | k + 1 => by rw [drs1_succ, List.length_append, dr1_len]; have := drs1_len k; omega
theorem drs2_len : ∀ k, (drs2 k).length ≤ 4 * k
  | 0 => by simp [drs2, rgI]
  | k + 1 => by rw [drs2_succ, List.length_append, dr2_len]; have := drs2_len k; omega
theorem rowA_len (op tq : Int) : ∀ k, (rowA op tq k).length ≤ 4 * k
  | 0 => by simp [rowA, rgI]
  | k + 1 => by rw [rowA_succ, List.length_append, rowB_len]; have := rowA_len op tq k; omega
theorem rowT_len (op lo : Int) : ∀ k, (rowT op lo k).length ≤ 16 * k
  | 0 => by simp [rowT, rgI]
  | k + 1 => by rw [rowT_succ, List.length_append]; have := rowT_len op lo k; have := rowA_len op (lo + (k : Int)) 4; omega
theorem nOf_le (op : Int) : nOf op ≤ 8 := by unfold nOf; split <;> decide
theorem rowsO_len : ∀ k, (rowsO k).length ≤ 128 * k
  | 0 => by simp [rowsO, rgI]
  | k + 1 => by rw [rowsO_succ, List.length_append]; have := rowsO_len k; have := rowT_len (3 + (k : Int)) (loOf (3 + (k : Int))) (nOf (3 + (k : Int))); have := nOf_le (3 + (k : Int)); omega
def allD : List L := [⟨0, 0, 0, 0⟩] ++ drs1 4 ++ drs2 4 ++ rowsO 5
theorem allD_eq : allD = allL := by kernel_rfl

set_option maxRecDepth 100000 in
set_option maxHeartbeats 4000000 in
theorem rAll_any (w : World) : Calls Tryz.prog 64 #[] w (GivesLines allL w) := by
  rw [← allD_eq]
  obtain ⟨i0, hi, hz0, hz1, hz2⟩ := info_parts info_line
  have hO0 : (w.alloc (.cells (lV ⟨0, 0, 0, 0⟩) 42)).ownsRow w.heap.size 42 4 (.slice (some ⟨w.heap.size, 0, none⟩) 1 1) 1 (lc [⟨0, 0, 0, 0⟩]) := World.ownsRow_lit (base := w.heap.size) (e := 42) (size := 4) w (lV ⟨0, 0, 0, 0⟩) 1 (Nat.le_refl _) (by simp [maxLen]) (by simp [lV])
  have HO := Lib.hid hO0
  have HB := Lib.hid (show Below w.heap.size w (w.alloc (.cells (lV ⟨0, 0, 0, 0⟩) 42)) from (Below.refl _ _).alloc (Nat.le_refl _) _)
  unfold lV at HO HB
  clear hO0
  go_enter Tryz.func64, Tryz.ntmps64
  go_wp2_with fail
  go_loopw [1, 2] (fun s1 s2 wr => ∃ k : Nat, k ≤ 4 ∧ s2 = .int .i64 (k : Int) ∧ wr.ownsRow w.heap.size 42 4 s1 ([⟨0, 0, 0, 0⟩] ++ drs1 k : List L).length (lc ([⟨0, 0, 0, 0⟩] ++ drs1 k : List L)) ∧ Below w.heap.size w wr) (fun _ s2 _ => (5 - intOf s2).toNat)
  case atStart => exact ⟨0, by omega, rfl, HO.out, HB.out⟩
  case round =>
    clear HO HB
    obtain ⟨k, hk, rfl, hO, hB⟩ := hrel
    by_cases hlt : k < 4
    · have HS := Lib.hid (show ([⟨0, 0, 0, 0⟩] : List L) ++ drs1 (k + 1) = (([⟨0, 0, 0, 0⟩] : List L) ++ drs1 k) ++ dr1 (k : Int) 19 by rw [drs1_succ, List.append_assoc])
      have d1 : decide ((k : Int) < 4) = true := by simp; omega
      have hlen : ([⟨0, 0, 0, 0⟩] ++ drs1 k : List L).length ≤ 100 := by rw [List.length_append]; have := drs1_len k; simp; omega
      generalize ([⟨0, 0, 0, 0⟩] : List L) ++ drs1 k = P at *
      obtain ⟨va, vc, rfl⟩ := own_slice hO
      have HO := Lib.hid hO
      have HB := Lib.hid hB
      clear hO hB
      go_wp2_with fail
      go_loopw [1, 3] (fun s1 s3 wx => ∃ m : Nat, m ≤ 19 ∧ s3 = .int .i64 (-9 + (m : Int)) ∧ wx.ownsRow w.heap.size 42 4 s1 (P ++ dr1 (k : Int) m).length (lc (P ++ dr1 (k : Int) m)) ∧ Below w.heap.size w wx) (fun _ s3 _ => (10 - intOf s3).toNat)
      case atStart => exact ⟨0, by omega, rfl, by rw [show dr1 (k : Int) 0 = [] from rfl, List.append_nil]; exact HO.out, HB.out⟩
      case round =>
        clear HO HB
        obtain ⟨m, hm, rfl, hO, hB⟩ := hrel
        by_cases hlm : m < 19
        · have hqq : (P ++ dr1 (k : Int) m).length ≤ 200 := by rw [List.length_append, dr1_len]; omega
          have HN := Lib.hid (show P ++ dr1 (k : Int) (m + 1) = (P ++ dr1 (k : Int) m) ++ [⟨1, (k : Int), -9 + (m : Int), 0⟩] by rw [dr1_succ, List.append_assoc])
          have g2 : -9 + (m : Int) ≤ 9 := by omega
          generalize P ++ dr1 (k : Int) m = LS at hqq HN hO

          obtain ⟨va, vc, rfl⟩ := own_slice hO
          have hal2 : Below wr.heap.size wr (wr.alloc (.cells (lV ⟨1, (k : Int), -9 + (m : Int), 0⟩) 42)) := (Below.refl _ _).alloc (Nat.le_refl _) _
          have HO2 := Lib.hid (own_below hO hal2 (Nat.le_refl _))
          have HB2 := Lib.hid (hB.trans (hal2.mono hB.size))
          have HC := Lib.hid (cells_newL wr ⟨1, (k : Int), -9 + (m : Int), 0⟩)
          unfold lV at HO2 HB2 HC
          clear hal2 hO hB
          go_wp2_with (at_builtin; (refine wpList_append_own _ rfl (.tmp 22) (.tmp 26) 22 rfl w.heap.size 42 i0 (.agg #[.int .i64 0, .int .i64 0, .int .i64 0, .int .i64 0]) 4 32 Tryz.underlying22 hi hz0 hz1 hz2 rfl (by decide) (.slice va LS.length vc) LS.length (lc LS) rfl HO2.out ⟨wr.heap.size, 0, none⟩ 1 1 (lc [⟨1, (k : Int), -9 + (m : Int), 0⟩]) rfl ?c1 ?c2 ?c3 ?c4 ?c5 ?c6 ?_))
          case c1 => rfl
          case c2 => first | exact HC.out | exact fun j u h => h
          case c3 => exact lc_one _
          case c4 => simp [maxLen]; omega
          case c5 => omega
          case c6 => first | exact HB2.out.size | (have h9 := HB2.out.size; simp at h9; omega)
          intro v' w2 hown hgrow _
          have HB3 := Lib.hid (HB2.out.grown hgrow HB2.out.size (by rintro k hk; exact (HO2.out.lt k hk).1))
          have HO3 := Lib.hid (lines_snoc hown)
          clear hown hgrow
          go_wp2_with fail
          go_roundw
          case rel => exact ⟨m + 1, by omega, by go_num, by rw [HN.out, List.length_append]; exact HO3.out, HB3.out⟩
          case measure => simp [intOf]; omega
        · obtain rfl : m = 19 := by omega
          rw [← HS.out] at hO
          have HO := Lib.hid hO
          have HB := Lib.hid hB
          clear hO hB
          go_wp2_with fail
          go_roundw
          case rel => exact ⟨k + 1, by omega, by go_num, HO.out, HB.out⟩
          case measure => simp [intOf]; omega
    · obtain rfl : k = 4 := by omega
      rw [show ((4 : Nat) : Int) = (4 : Int) from rfl]
      generalize hPP : ([⟨0, 0, 0, 0⟩] : List L) ++ drs1 4 = PP at hO
      have hPL : PP.length = 77 := by rw [← hPP]; rfl
      have HPP := Lib.hid hPP
      obtain ⟨va, vc, rfl⟩ := own_slice hO
      have HO := Lib.hid hO
      have HB := Lib.hid hB
      clear hO hB hPP
      go_wp2_with fail
      go_loopw [1, 4] (fun s1 s4 wr => ∃ k : Nat, k ≤ 4 ∧ s4 = .int .i64 (k : Int) ∧ wr.ownsRow w.heap.size 42 4 s1 (PP ++ drs2 k).length (lc (PP ++ drs2 k)) ∧ Below w.heap.size w wr) (fun _ s4 _ => (5 - intOf s4).toNat)
      case atStart => exact ⟨0, by omega, rfl, by rw [show drs2 0 = [] from rfl, List.append_nil]; exact HO.out, HB.out⟩
      case round =>
        clear HO HB
        obtain ⟨k, hk, rfl, hO, hB⟩ := hrel
        by_cases hlt : k < 4
        · have HS := Lib.hid (show PP ++ drs2 (k + 1) = (PP ++ drs2 k) ++ dr2 (k : Int) 4 by rw [drs2_succ, List.append_assoc])
          have d2 : decide ((k : Int) < 4) = true := by simp; omega
          have hlen : (PP ++ drs2 k).length ≤ 200 := by rw [List.length_append]; have := drs2_len k; omega
          generalize PP ++ drs2 k = P at *
          obtain ⟨va, vc, rfl⟩ := own_slice hO
          have HO := Lib.hid hO
          have HB := Lib.hid hB
          clear hO hB
          go_wp2_with fail
          go_loopw [1, 5] (fun s1 s5 wx => ∃ m : Nat, m ≤ 4 ∧ s5 = .int .i64 (m : Int) ∧ wx.ownsRow w.heap.size 42 4 s1 (P ++ dr2 (k : Int) m).length (lc (P ++ dr2 (k : Int) m)) ∧ Below w.heap.size w wx) (fun _ s5 _ => (5 - intOf s5).toNat)
          case atStart => exact ⟨0, by omega, rfl, by rw [show dr2 (k : Int) 0 = [] from rfl, List.append_nil]; exact HO.out, HB.out⟩
          case round =>
            clear HO HB
            obtain ⟨m, hm, rfl, hO, hB⟩ := hrel
            by_cases hlm : m < 4
            · have hqq : (P ++ dr2 (k : Int) m).length ≤ 300 := by rw [List.length_append, dr2_len]; omega
              have HN := Lib.hid (show P ++ dr2 (k : Int) (m + 1) = (P ++ dr2 (k : Int) m) ++ [⟨2, (k : Int), (m : Int), 0⟩] by rw [dr2_succ, List.append_assoc])
              generalize P ++ dr2 (k : Int) m = LS at hqq HN hO

              obtain ⟨va, vc, rfl⟩ := own_slice hO
              have hal2 : Below wr.heap.size wr (wr.alloc (.cells (lV ⟨2, (k : Int), (m : Int), 0⟩) 42)) := (Below.refl _ _).alloc (Nat.le_refl _) _
              have HO2 := Lib.hid (own_below hO hal2 (Nat.le_refl _))
              have HB2 := Lib.hid (hB.trans (hal2.mono hB.size))
              have HC := Lib.hid (cells_newL wr ⟨2, (k : Int), (m : Int), 0⟩)
              unfold lV at HO2 HB2 HC
              clear hal2 hO hB
              go_wp2_with (at_builtin; (refine wpList_append_own _ rfl (.tmp 36) (.tmp 40) 22 rfl w.heap.size 42 i0 (.agg #[.int .i64 0, .int .i64 0, .int .i64 0, .int .i64 0]) 4 32 Tryz.underlying22 hi hz0 hz1 hz2 rfl (by decide) (.slice va LS.length vc) LS.length (lc LS) rfl HO2.out ⟨wr.heap.size, 0, none⟩ 1 1 (lc [⟨2, (k : Int), (m : Int), 0⟩]) rfl ?c1 ?c2 ?c3 ?c4 ?c5 ?c6 ?_))
              case c1 => rfl
              case c2 => first | exact HC.out | exact fun j u h => h
              case c3 => exact lc_one _
              case c4 => simp [maxLen]; omega
              case c5 => omega
              case c6 => first | exact HB2.out.size | (have h9 := HB2.out.size; simp at h9; omega)
              intro v' w2 hown hgrow _
              have HB3 := Lib.hid (HB2.out.grown hgrow HB2.out.size (by rintro k hk; exact (HO2.out.lt k hk).1))
              have HO3 := Lib.hid (lines_snoc hown)
              clear hown hgrow
              go_wp2_with fail
              go_roundw
              case rel => exact ⟨m + 1, by omega, by go_num, by rw [HN.out, List.length_append]; exact HO3.out, HB3.out⟩
              case measure => simp [intOf]; omega
            · obtain rfl : m = 4 := by omega
              rw [← HS.out] at hO
              have HO := Lib.hid hO
              have HB := Lib.hid hB
              clear hO hB
              go_wp2_with fail
              go_roundw
              case rel => exact ⟨k + 1, by omega, by go_num, HO.out, HB.out⟩
              case measure => simp [intOf]; omega
        · obtain rfl : k = 4 := by omega
          rw [show ((4 : Nat) : Int) = (4 : Int) from rfl]
          generalize hQQ : PP ++ drs2 4 = QQ at hO
          have hQL : QQ.length = 93 := by rw [← hQQ, List.length_append, hPL]; rfl
          have HQQ := Lib.hid hQQ
          obtain ⟨va, vc, rfl⟩ := own_slice hO
          have HO := Lib.hid hO
          have HB := Lib.hid hB
          clear hO hB hQQ
          go_wp2_with fail
          go_loopw [1, 6] (fun s1 s6 wr => ∃ k : Nat, k ≤ 5 ∧ s6 = .int .i64 (3 + (k : Int)) ∧ wr.ownsRow w.heap.size 42 4 s1 (QQ ++ rowsO k).length (lc (QQ ++ rowsO k)) ∧ Below w.heap.size w wr) (fun _ s6 _ => (9 - intOf s6).toNat)
          case atStart => exact ⟨0, by omega, rfl, by rw [show rowsO 0 = [] from rfl, List.append_nil]; exact HO.out, HB.out⟩
          case round =>
            clear HO HB
            obtain ⟨k, hk, rfl, hO, hB⟩ := hrel
            by_cases hlt : k < 5
            · have HS := Lib.hid (show QQ ++ rowsO (k + 1) = (QQ ++ rowsO k) ++ rowT (3 + (k : Int)) (loOf (3 + (k : Int))) (nOf (3 + (k : Int))) by rw [rowsO_succ, List.append_assoc])
              have hlen : (QQ ++ rowsO k).length ≤ 800 := by rw [List.length_append]; have := rowsO_len k; omega
              generalize QQ ++ rowsO k = P at *
              obtain ⟨va, vc, rfl⟩ := own_slice hO
              have HO := Lib.hid hO
              have HB := Lib.hid hB
              clear hO hB
              have hop : (3 + (k : Int) == 7) = true ∧ loOf (3 + (k : Int)) = 1 ∧ nOf (3 + (k : Int)) = 8 ∨ (3 + (k : Int) == 7) = false ∧ loOf (3 + (k : Int)) = 0 ∧ nOf (3 + (k : Int)) = 4 := by
                by_cases h7 : 3 + (k : Int) = 7
                · exact .inl ⟨by simpa using h7, by unfold loOf; rw [if_pos h7], by unfold nOf; rw [if_pos h7]⟩
                · exact .inr ⟨by simpa using h7, by unfold loOf; rw [if_neg h7], by unfold nOf; rw [if_neg h7]⟩
              have hnl : loOf (3 + (k : Int)) + (nOf (3 + (k : Int)) : Int) ≤ 9 ∧ 0 ≤ loOf (3 + (k : Int)) := by rcases hop with ⟨_, h1, h2⟩ | ⟨_, h1, h2⟩ <;> rw [h1, h2] <;> decide
              have g3 : 3 + (k : Int) ≤ 7 := by omega
              have d3 : decide (3 + (k : Int) ≤ 7) = true := by simp; omega
              rcases hop with ⟨h1, h2, h3⟩ | ⟨h1, h2, h3⟩
              · rw [h2, h3] at HS
                have hrs := fun m => rowT_succ (3 + (k : Int)) 1 m
                have HRS := Lib.hid hrs
                have hrl := fun m => rowT_len (3 + (k : Int)) 1 m
                clear hrs h2 h3
                generalize hov : 3 + (k : Int) = ov at *
                have HOV := Lib.hid hov
                have ov0 : 3 ≤ ov := by omega
                clear hov
                go_wp2_with fail
                go_loopw [1, 9] (fun s1 s9 wx => ∃ m : Nat, m ≤ 8 ∧ s9 = .int .i64 (1 + (m : Int)) ∧ wx.ownsRow w.heap.size 42 4 s1 (P ++ rowT ov 1 m).length (lc (P ++ rowT ov 1 m)) ∧ Below w.heap.size w wx) (fun _ s9 _ => (10 - intOf s9).toNat)
                case atStart => exact ⟨0, by omega, rfl, by rw [show rowT ov 1 0 = [] from rfl, List.append_nil]; exact HO.out, HB.out⟩
                case round =>
                  clear HO HB
                  obtain ⟨m, hm, rfl, hO, hB⟩ := hrel
                  by_cases hlm : m < 8
                  · have HST := Lib.hid (show P ++ rowT ov 1 (m + 1) = (P ++ rowT ov 1 m) ++ rowA ov (1 + (m : Int)) 4 by rw [HRS.out, List.append_assoc])
                    have hlen2 : (P ++ rowT ov 1 m).length ≤ 1000 := by rw [List.length_append]; have := hrl m; omega
                    have g4 : 1 + (m : Int) ≤ 8 := by omega
                    have d4 : decide (1 + (m : Int) ≤ 8) = true := by simp; omega
                    generalize P ++ rowT ov 1 m = P2 at *
                    generalize hto : 1 + (m : Int) = tv at *
                    have HTO := Lib.hid hto
                    have tv0 : 0 ≤ tv := by omega
                    clear hto
                    obtain ⟨va, vc, rfl⟩ := own_slice hO
                    have HO := Lib.hid hO
                    have HB := Lib.hid hB
                    clear hO hB
                    go_wp2_with fail
                    go_loopw [1, 10] (fun s1 s10 wx => ∃ m : Nat, m ≤ 4 ∧ s10 = .int .i64 (m : Int) ∧ wx.ownsRow w.heap.size 42 4 s1 (P2 ++ rowA ov tv m).length (lc (P2 ++ rowA ov tv m)) ∧ Below w.heap.size w wx) (fun _ s10 _ => (10 - intOf s10).toNat)
                    case atStart => exact ⟨0, by omega, rfl, by rw [show rowA ov tv 0 = [] from rfl, List.append_nil]; exact HO.out, HB.out⟩
                    case round =>
                      clear HO HB
                      obtain ⟨j, hj, rfl, hO, hB⟩ := hrel
                      by_cases hlj : j < 4
                      · have HSA := Lib.hid (show P2 ++ rowA ov tv (j + 1) = (P2 ++ rowA ov tv j) ++ rowB ov tv (j : Int) 4 by rw [rowA_succ, List.append_assoc])
                        have hlen3 : (P2 ++ rowA ov tv j).length ≤ 1100 := by rw [List.length_append]; have := rowA_len ov tv j; omega
                        have d5 : decide ((j : Int) < 4) = true := by simp; omega
                        generalize P2 ++ rowA ov tv j = P3 at *
                        obtain ⟨va, vc, rfl⟩ := own_slice hO
                        have HO := Lib.hid hO
                        have HB := Lib.hid hB
                        clear hO hB
                        go_wp2_with fail
                        go_loopw [1, 11] (fun s1 s11 wx => ∃ m : Nat, m ≤ 4 ∧ s11 = .int .i64 (m : Int) ∧ wx.ownsRow w.heap.size 42 4 s1 (P3 ++ rowB ov tv (j : Int) m).length (lc (P3 ++ rowB ov tv (j : Int) m)) ∧ Below w.heap.size w wx) (fun _ s11 _ => (10 - intOf s11).toNat)
                        case atStart => exact ⟨0, by omega, rfl, by rw [show rowB ov tv (j : Int) 0 = [] from rfl, List.append_nil]; exact HO.out, HB.out⟩
                        case round =>
                          clear HO HB
                          obtain ⟨i, hi2, rfl, hO, hB⟩ := hrel
                          by_cases hli : i < 4
                          · have hqq : (P3 ++ rowB ov tv (j : Int) i).length ≤ 1200 := by rw [List.length_append, rowB_len]; omega
                            have HN := Lib.hid (show P3 ++ rowB ov tv (j : Int) (i + 1) = (P3 ++ rowB ov tv (j : Int) i) ++ [⟨ov, tv, (j : Int), (i : Int)⟩] by rw [rowB_succ, List.append_assoc])
                            generalize P3 ++ rowB ov tv (j : Int) i = LS at hqq HN hO
                            obtain ⟨va, vc, rfl⟩ := own_slice hO
                            have hal2 : Below wr.heap.size wr (wr.alloc (.cells (lV ⟨ov, tv, (j : Int), (i : Int)⟩) 42)) := (Below.refl _ _).alloc (Nat.le_refl _) _
                            have HO2 := Lib.hid (own_below hO hal2 (Nat.le_refl _))
                            have HB2 := Lib.hid (hB.trans (hal2.mono hB.size))
                            have HC := Lib.hid (cells_newL wr ⟨ov, tv, (j : Int), (i : Int)⟩)
                            unfold lV at HO2 HB2 HC
                            clear hal2 hO hB
                            go_wp2_with (at_builtin; (refine wpList_append_own _ rfl (.tmp 62) (.tmp 68) 22 rfl w.heap.size 42 i0 (.agg #[.int .i64 0, .int .i64 0, .int .i64 0, .int .i64 0]) 4 32 Tryz.underlying22 hi hz0 hz1 hz2 rfl (by decide) (.slice va LS.length vc) LS.length (lc LS) rfl HO2.out ⟨wr.heap.size, 0, none⟩ 1 1 (lc [⟨ov, tv, (j : Int), (i : Int)⟩]) rfl ?c1 ?c2 ?c3 ?c4 ?c5 ?c6 ?_))
                            case c1 => rfl
                            case c2 => first | exact HC.out | exact fun j u h => h
                            case c3 => exact lc_one _
                            case c4 => simp [maxLen]; omega
                            case c5 => omega
                            case c6 => first | exact HB2.out.size | (have h9 := HB2.out.size; simp at h9; omega)
                            intro v' w2 hown hgrow _
                            have HB3 := Lib.hid (HB2.out.grown hgrow HB2.out.size (by rintro k hk; exact (HO2.out.lt k hk).1))
                            have HO3 := Lib.hid (lines_snoc hown)
                            clear hown hgrow
                            go_wp2_with fail
                            go_roundw
                            case rel => exact ⟨i + 1, by omega, by go_num, by rw [HN.out, List.length_append]; exact HO3.out, HB3.out⟩
                            case measure => simp [intOf]; omega
                          · obtain rfl : i = 4 := by omega
                            rw [← HSA.out] at hO
                            have HO := Lib.hid hO
                            have HB := Lib.hid hB
                            clear hO hB
                            go_wp2_with fail
                            go_roundw
                            case rel => exact ⟨j + 1, by omega, by go_num, HO.out, HB.out⟩
                            case measure => simp [intOf]; omega
                      · obtain rfl : j = 4 := by omega
                        rw [← HST.out] at hO
                        have HO := Lib.hid hO
                        have HB := Lib.hid hB
                        clear hO hB
                        go_wp2_with fail
                        go_roundw
                        case rel => exact ⟨m + 1, by omega, by have := HTO.out; go_num, HO.out, HB.out⟩
                        case measure => have := HTO.out; simp [intOf]; omega
                  · obtain rfl : m = 8 := by omega
                    rw [← HS.out] at hO
                    have HO := Lib.hid hO
                    have HB := Lib.hid hB
                    clear hO hB
                    go_wp2_with fail
                    go_roundw
                    case rel => exact ⟨k + 1, by omega, by have := HOV.out; go_num, HO.out, HB.out⟩
                    case measure => have := HOV.out; simp [intOf]; omega
              · rw [h2, h3] at HS
                have hrs := fun m => rowT_succ (3 + (k : Int)) 0 m
                have HRS := Lib.hid hrs
                have hrl := fun m => rowT_len (3 + (k : Int)) 0 m
                clear hrs h2 h3
                generalize hov : 3 + (k : Int) = ov at *
                have HOV := Lib.hid hov
                have ov0 : 3 ≤ ov := by omega
                clear hov
                go_wp2_with fail
                go_loopw [1, 9] (fun s1 s9 wx => ∃ m : Nat, m ≤ 4 ∧ s9 = .int .i64 (0 + (m : Int)) ∧ wx.ownsRow w.heap.size 42 4 s1 (P ++ rowT ov 0 m).length (lc (P ++ rowT ov 0 m)) ∧ Below w.heap.size w wx) (fun _ s9 _ => (10 - intOf s9).toNat)
                case atStart => exact ⟨0, by omega, rfl, by rw [show rowT ov 0 0 = [] from rfl, List.append_nil]; exact HO.out, HB.out⟩
                case round =>
                  clear HO HB
                  obtain ⟨m, hm, rfl, hO, hB⟩ := hrel
                  by_cases hlm : m < 4
                  · have HST := Lib.hid (show P ++ rowT ov 0 (m + 1) = (P ++ rowT ov 0 m) ++ rowA ov (0 + (m : Int)) 4 by rw [HRS.out, List.append_assoc])
                    have hlen2 : (P ++ rowT ov 0 m).length ≤ 1000 := by rw [List.length_append]; have := hrl m; omega
                    have g4 : 0 + (m : Int) ≤ 3 := by omega
                    have d4 : decide (0 + (m : Int) ≤ 3) = true := by simp; omega
                    generalize P ++ rowT ov 0 m = P2 at *
                    generalize hto : 0 + (m : Int) = tv at *
                    have HTO := Lib.hid hto
                    have tv0 : 0 ≤ tv := by omega
                    clear hto
                    obtain ⟨va, vc, rfl⟩ := own_slice hO
                    have HO := Lib.hid hO
                    have HB := Lib.hid hB
                    clear hO hB
                    go_wp2_with fail
                    go_loopw [1, 10] (fun s1 s10 wx => ∃ m : Nat, m ≤ 4 ∧ s10 = .int .i64 (m : Int) ∧ wx.ownsRow w.heap.size 42 4 s1 (P2 ++ rowA ov tv m).length (lc (P2 ++ rowA ov tv m)) ∧ Below w.heap.size w wx) (fun _ s10 _ => (10 - intOf s10).toNat)
                    case atStart => exact ⟨0, by omega, rfl, by rw [show rowA ov tv 0 = [] from rfl, List.append_nil]; exact HO.out, HB.out⟩
                    case round =>
                      clear HO HB
                      obtain ⟨j, hj, rfl, hO, hB⟩ := hrel
                      by_cases hlj : j < 4
                      · have HSA := Lib.hid (show P2 ++ rowA ov tv (j + 1) = (P2 ++ rowA ov tv j) ++ rowB ov tv (j : Int) 4 by rw [rowA_succ, List.append_assoc])
                        have hlen3 : (P2 ++ rowA ov tv j).length ≤ 1100 := by rw [List.length_append]; have := rowA_len ov tv j; omega
                        have d5 : decide ((j : Int) < 4) = true := by simp; omega
                        generalize P2 ++ rowA ov tv j = P3 at *
                        obtain ⟨va, vc, rfl⟩ := own_slice hO
                        have HO := Lib.hid hO
                        have HB := Lib.hid hB
                        clear hO hB
                        go_wp2_with fail
                        go_loopw [1, 11] (fun s1 s11 wx => ∃ m : Nat, m ≤ 4 ∧ s11 = .int .i64 (m : Int) ∧ wx.ownsRow w.heap.size 42 4 s1 (P3 ++ rowB ov tv (j : Int) m).length (lc (P3 ++ rowB ov tv (j : Int) m)) ∧ Below w.heap.size w wx) (fun _ s11 _ => (10 - intOf s11).toNat)
                        case atStart => exact ⟨0, by omega, rfl, by rw [show rowB ov tv (j : Int) 0 = [] from rfl, List.append_nil]; exact HO.out, HB.out⟩
                        case round =>
                          clear HO HB
                          obtain ⟨i, hi2, rfl, hO, hB⟩ := hrel
                          by_cases hli : i < 4
                          · have hqq : (P3 ++ rowB ov tv (j : Int) i).length ≤ 1200 := by rw [List.length_append, rowB_len]; omega
                            have HN := Lib.hid (show P3 ++ rowB ov tv (j : Int) (i + 1) = (P3 ++ rowB ov tv (j : Int) i) ++ [⟨ov, tv, (j : Int), (i : Int)⟩] by rw [rowB_succ, List.append_assoc])
                            generalize P3 ++ rowB ov tv (j : Int) i = LS at hqq HN hO
                            obtain ⟨va, vc, rfl⟩ := own_slice hO
                            have hal2 : Below wr.heap.size wr (wr.alloc (.cells (lV ⟨ov, tv, (j : Int), (i : Int)⟩) 42)) := (Below.refl _ _).alloc (Nat.le_refl _) _
                            have HO2 := Lib.hid (own_below hO hal2 (Nat.le_refl _))
                            have HB2 := Lib.hid (hB.trans (hal2.mono hB.size))
                            have HC := Lib.hid (cells_newL wr ⟨ov, tv, (j : Int), (i : Int)⟩)
                            unfold lV at HO2 HB2 HC
                            clear hal2 hO hB
                            go_wp2_with (at_builtin; (refine wpList_append_own _ rfl (.tmp 62) (.tmp 68) 22 rfl w.heap.size 42 i0 (.agg #[.int .i64 0, .int .i64 0, .int .i64 0, .int .i64 0]) 4 32 Tryz.underlying22 hi hz0 hz1 hz2 rfl (by decide) (.slice va LS.length vc) LS.length (lc LS) rfl HO2.out ⟨wr.heap.size, 0, none⟩ 1 1 (lc [⟨ov, tv, (j : Int), (i : Int)⟩]) rfl ?c1 ?c2 ?c3 ?c4 ?c5 ?c6 ?_))
                            case c1 => rfl
                            case c2 => first | exact HC.out | exact fun j u h => h
                            case c3 => exact lc_one _
                            case c4 => simp [maxLen]; omega
                            case c5 => omega
                            case c6 => first | exact HB2.out.size | (have h9 := HB2.out.size; simp at h9; omega)
                            intro v' w2 hown hgrow _
                            have HB3 := Lib.hid (HB2.out.grown hgrow HB2.out.size (by rintro k hk; exact (HO2.out.lt k hk).1))
                            have HO3 := Lib.hid (lines_snoc hown)
                            clear hown hgrow
                            go_wp2_with fail
                            go_roundw
                            case rel => exact ⟨i + 1, by omega, by go_num, by rw [HN.out, List.length_append]; exact HO3.out, HB3.out⟩
                            case measure => simp [intOf]; omega
                          · obtain rfl : i = 4 := by omega
                            rw [← HSA.out] at hO
                            have HO := Lib.hid hO
                            have HB := Lib.hid hB
                            clear hO hB
                            go_wp2_with fail
                            go_roundw
                            case rel => exact ⟨j + 1, by omega, by go_num, HO.out, HB.out⟩
                            case measure => simp [intOf]; omega
                      · obtain rfl : j = 4 := by omega
                        rw [← HST.out] at hO
                        have HO := Lib.hid hO
                        have HB := Lib.hid hB
                        clear hO hB
                        go_wp2_with fail
                        go_roundw
                        case rel => exact ⟨m + 1, by omega, by have := HTO.out; go_num, HO.out, HB.out⟩
                        case measure => have := HTO.out; simp [intOf]; omega
                  · obtain rfl : m = 4 := by omega
                    rw [← HS.out] at hO
                    have HO := Lib.hid hO
                    have HB := Lib.hid hB
                    clear hO hB
                    go_wp2_with fail
                    go_roundw
                    case rel => exact ⟨k + 1, by omega, by have := HOV.out; go_num, HO.out, HB.out⟩
                    case measure => have := HOV.out; simp [intOf]; omega
            · obtain rfl : k = 5 := by omega
              have HE := Lib.hid (show QQ ++ rowsO 5 = allD by rw [← HQQ.out, ← HPP.out]; rfl)
              rw [HE.out] at hO
              have HO := Lib.hid hO
              have HB := Lib.hid hB
              clear hO hB
              go_wp2_with fail
              go_ret
              exact givesLines_of rfl HO.out HB.out

end Go.Proofs.YtfclfmloceddfaaGreat

/- Equal lists of edits, lines and numbers: contracts of Same, SameLines, SameInts. -/
set_option linter.unusedVariables false
set_option linter.unusedSimpArgs false
namespace Go.Proofs.YtfclfmloceddfaaGreat
open Go.RowKit Tinker

set_option maxRecDepth 100000 in
set_option maxHeartbeats 1000000 in
theorem sameE_self (n : Nat) (a b : Option Addr) (ca cb : Nat) (xs : List E) (w : World) (hn : xs.length = n) (ha : EditsAt w a xs) (hb : EditsAt w b xs) (hm : n ≤ 1000) :
    Calls Tryz.prog 10 #[.slice a n ca, .slice b n cb] w fun e w' => e = .returned (.bool true) ∧ Below w.heap.size w w' := by
  have HN := Lib.hid hn
  have hnn : ((n : Int) != (n : Int)) = false := by simp
  clear hn
  go_enter Tryz.func10, Tryz.ntmps10
  go_wp2_with fail
  go_loopw [5] (fun s5 wr => ∃ k : Nat, k ≤ n ∧ s5 = .int .i64 k ∧ Below w.heap.size w wr) (fun s5 _ => n - (intOf s5).toNat)
  case atStart => exact ⟨0, Nat.zero_le _, rfl, Below.refl _ _⟩
  case round =>
    obtain ⟨k, hk, rfl, hB⟩ := hrel
    by_cases hlt : k < n
    · obtain ⟨b1, o1, l, rfl, hl1, hx, c0, c1, c2, c3, c4⟩ := (ha.below hB (Nat.le_refl _)).at_ (show k < xs.length by rw [HN.out]; exact hlt)
      obtain ⟨b2, o2, m, rfl, hl2, hy, d0, d1, d2, d3, d4⟩ := (hb.below hB (Nat.le_refl _)).at_ (show k < xs.length by rw [HN.out]; exact hlt)
      rw [hx] at hy
      injection hy with hy
      subst hy
      have HB := Lib.hid hB
      clear hx ha hb hB
      go_wp2_with fail
      go_quiet (fail)
      go_wp2_with fail
      go_roundw
      case rel => exact ⟨k + 1, by omega, by go_num, HB.out.trans (Below.mono ⟨rfl, rfl, rfl, Nat.le_refl _, fun _ _ => rfl⟩ HB.out.size)⟩
      case measure => simp [intOf]; omega
    · go_wp2
      go_ret
      exact ⟨rfl, hB⟩

end Go.Proofs.YtfclfmloceddfaaGreat

/- Same of the document on equal lists of edits, long ones too. -/
set_option linter.unusedVariables false
set_option linter.unusedSimpArgs false
namespace Go.Proofs.YtfclfmloceddfaaGreat
open Go.RowKit Tinker

set_option maxRecDepth 100000 in
set_option maxHeartbeats 1000000 in
theorem sameE5_self (n : Nat) (a b : Option Addr) (ca cb : Nat) (xs : List E) (w : World) (hn : xs.length = n) (ha : EditsAt w a xs) (hb : EditsAt w b xs) (hm : n ≤ 100000) :
    Calls Tryz.prog 10 #[.slice a n ca, .slice b n cb] w fun e w' => e = .returned (.bool true) ∧ Below w.heap.size w w' := by
  have HN := Lib.hid hn
  have hnn : ((n : Int) != (n : Int)) = false := by simp
  clear hn
  go_enter Tryz.func10, Tryz.ntmps10
  go_wp2_with fail
  go_loopw [5] (fun s5 wr => ∃ k : Nat, k ≤ n ∧ s5 = .int .i64 k ∧ Below w.heap.size w wr) (fun s5 _ => n - (intOf s5).toNat)
  case atStart => exact ⟨0, Nat.zero_le _, rfl, Below.refl _ _⟩
  case round =>
    obtain ⟨k, hk, rfl, hB⟩ := hrel
    by_cases hlt : k < n
    · obtain ⟨b1, o1, l, rfl, hl1, hx, c0, c1, c2, c3, c4⟩ := (ha.below hB (Nat.le_refl _)).at_ (show k < xs.length by rw [HN.out]; exact hlt)
      obtain ⟨b2, o2, m, rfl, hl2, hy, d0, d1, d2, d3, d4⟩ := (hb.below hB (Nat.le_refl _)).at_ (show k < xs.length by rw [HN.out]; exact hlt)
      rw [hx] at hy
      injection hy with hy
      subst hy
      have HB := Lib.hid hB
      clear hx ha hb hB
      go_wp2_with fail
      go_quiet (fail)
      go_wp2_with fail
      go_roundw
      case rel => exact ⟨k + 1, by omega, by go_num, HB.out.trans (Below.mono ⟨rfl, rfl, rfl, Nat.le_refl _, fun _ _ => rfl⟩ HB.out.size)⟩
      case measure => simp [intOf]; omega
    · go_wp2
      go_ret
      exact ⟨rfl, hB⟩


end Go.Proofs.YtfclfmloceddfaaGreat
