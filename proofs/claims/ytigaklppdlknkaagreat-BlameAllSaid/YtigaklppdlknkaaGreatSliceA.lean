/- matterBefore: contract. -/
import Derived.Test.YtigaklppdlknkaaGreatRunC
import Derived.Test.YtigaklppdlknkaaGreatPlain
set_option linter.unusedVariables false
set_option linter.unusedSimpArgs false
namespace Go.Proofs.YtigaklppdlknkaaGreat
open Go.RowKit Tinker

theorem bools4 {s : List Bool} (h : s.length = 4) : ∃ s0 s1 s2 s3, s = [s0, s1, s2, s3] := by
  match s, h with
  | [a, b, c, d], _ => exact ⟨a, b, c, d, rfl⟩

theorem idx_b4_0 (a b c d : Bool) (w : World) : (Instr.index 181 (.agg #[.bool a, .bool b, .bool c, .bool d]) (.int .i64 0)).run Tryz.prog w = .ok (.bool a) w := by kernel_rfl
theorem idx_b4_1 (a b c d : Bool) (w : World) : (Instr.index 181 (.agg #[.bool a, .bool b, .bool c, .bool d]) (.int .i64 1)).run Tryz.prog w = .ok (.bool b) w := by kernel_rfl
theorem idx_b4_2 (a b c d : Bool) (w : World) : (Instr.index 181 (.agg #[.bool a, .bool b, .bool c, .bool d]) (.int .i64 2)).run Tryz.prog w = .ok (.bool c) w := by kernel_rfl
theorem idx_b4_3 (a b c d : Bool) (w : World) : (Instr.index 181 (.agg #[.bool a, .bool b, .bool c, .bool d]) (.int .i64 3)).run Tryz.prog w = .ok (.bool d) w := by kernel_rfl
theorem idx_b4 (r : List Bool) (h : r.length = 4) (k : Nat) (hk : k < 4) : ∀ w, (Instr.index 181 (.agg (bv r)) (.int .i64 (k : Int))).run Tryz.prog w = .ok (.bool (r.getD k false)) w := by
  obtain ⟨a, b, c, d, rfl⟩ := bools4 h
  have hc : k = 0 ∨ k = 1 ∨ k = 2 ∨ k = 3 := by omega
  rcases hc with rfl | rfl | rfl | rfl
  · exact idx_b4_0 a b c d
  · exact idx_b4_1 a b c d
  · exact idx_b4_2 a b c d
  · exact idx_b4_3 a b c d

def mat1 (l : L) (m : List Bool) : List Bool := if Tinker.wr l then m.set l.to.toNat false else m
theorem mat1_length (l : L) (m : List Bool) : (mat1 l m).length = m.length := by unfold mat1; split <;> simp

set_option maxRecDepth 100000 in
set_option maxHeartbeats 1000000 in
theorem matterBefore_any (l : L) (m : List Bool) (w : World) (hl : isLn l = true) (hm : m.length = 4) :
    Calls Tryz.prog 191 #[lv l, .agg (bv m)] w fun e w' => e = .returned (.agg (bv (matB l m))) ∧ Below w.heap.size w w' := by
  have hw0 := fun w => writes_any l w hl
  have hr0 := fun w => reads_any l w hl
  have HW := Lib.hid hw0
  have HR := Lib.hid hr0
  have HM := Lib.hid hm
  have hto := fun h : Tinker.wr l = true => wr_to hl h
  unfold lv at HW HR ⊢
  clear hw0 hr0 hm
  go_enter Tryz.func191, Tryz.ntmps191
  go_upto_region 0 with fail
  go_cut [2, 3, 4] (fun s2 s3 s4 wx => ∃ A M R : Nat, s2 = .pointer (some ⟨A, 0, none⟩) ∧ s3 = .pointer (some ⟨M, 0, none⟩) ∧ s4 = .pointer (some ⟨R, 0, none⟩) ∧ w.heap.size ≤ M ∧ w.heap.size ≤ R ∧ M ≠ R ∧ A ≠ M ∧
    wx.heap[A]? = some (.cells #[.int .i64 l.op, .int .i64 l.to, .int .i64 l.a, .int .i64 l.b] 70 (0, 0)) ∧ wx.heap[M]? = some (.cells (bv m) 181 (0, 0)) ∧ wx.heap[R]? = some (.cells (bv [false, false, false, false]) 181 (0, 0)) ∧ Below w.heap.size w wx)
  case first =>
    go_wp2_with fail
    go_meet
    exact ⟨_, _, _, rfl, rfl, rfl, by omega, by omega, by omega, by omega, hp_alloc (hp_alloc (hp_new rfl)), hp_alloc (hp_new (by simp)), hp_new (by simp), (((Below.refl _ _).alloc (Nat.le_refl _) _).alloc (by simp) _).alloc (by simp; omega) _⟩
  case rest =>
    obtain ⟨A, M, R, rfl, rfl, rfl, hM, hR, hMR, hAM, bA, bM, bR, hB⟩ := hcut
    have a0 := hp_cell bA (j := 0) (by rfl)
    have a1 := hp_cell bA (j := 1) (by rfl)
    have a2 := hp_cell bA (j := 2) (by rfl)
    have a3 := hp_cell bA (j := 3) (by rfl)
    go_upto_if 8 with (go_at_call 171; refine (HW.out _).mono ?_; rintro e w1 ⟨rfl, hB1⟩)
    have lA := hp_lt bA
    have lM := hp_lt bM
    have lR := hp_lt bR
    have HA1 := Lib.hid (hp_below bA hB1 lA)
    have HM1 := Lib.hid (hp_below bM hB1 lM)
    have HR1 := Lib.hid (hp_below bR hB1 lR)
    have hB2 : Below w.heap.size w w1 := hB.trans (hB1.mono hB.size)
    clear bA bM bR a0 a1 a2 a3 hB hB1 lA lM lR
    go_cut [] (fun wx => wx.heap[A]? = some (.cells #[.int .i64 l.op, .int .i64 l.to, .int .i64 l.a, .int .i64 l.b] 70 (0, 0)) ∧ wx.heap[M]? = some (.cells (bv (mat1 l m)) 181 (0, 0)) ∧ wx.heap[R]? = some (.cells (bv [false, false, false, false]) 181 (0, 0)) ∧ Below w.heap.size w wx)
    case first =>
      cases hw : Tinker.wr l
      · have HE := Lib.hid (show mat1 l m = m by unfold mat1; rw [hw]; rfl)
        clear hw
        go_wp2_with fail
        go_meet
        rw [HE.out]
        exact ⟨HA1.out, HM1.out, HR1.out, hB2⟩
      · obtain ⟨td0, td1⟩ := hto hw
        have HE := Lib.hid (show mat1 l m = m.set l.to.toNat false by unfold mat1; rw [hw]; rfl)
        have a1 := hp_cell HA1.out (j := 1) (by rfl)
        have m1 := hp_cell HM1.out (bv_get m l.to.toNat (by rw [HM.out]; omega))
        have m2 := hp_free HM1.out l.to.toNat
        clear hw
        go_wp2_with fail
        go_meet
        rw [HE.out, ← bv_set]
        exact ⟨hp_set HA1.out hAM _, hp_put HM1.out _ _, hp_set HR1.out (fun e => hMR e.symm) _, hB2.setCell (p := ⟨M, _, none⟩) hM _⟩
    case rest =>
      clear HA1 HM1 HR1 hB2
      obtain ⟨bA, bM, bR, hB⟩ := hcut
      have a0 := hp_cell bA (j := 0) (by rfl)
      have a1 := hp_cell bA (j := 1) (by rfl)
      have a2 := hp_cell bA (j := 2) (by rfl)
      have a3 := hp_cell bA (j := 3) (by rfl)
      have HBM := Lib.hid bM
      have HBR := Lib.hid bR
      clear bA bM bR
      go_wp2_with fail
      refine (HR.out _).mono ?_
      rintro e w2 ⟨rfl, hB1⟩
      have HBM1 := Lib.hid (hp_below HBM.out hB1 (hp_lt HBM.out))
      have HBR1 := Lib.hid (hp_below HBR.out hB1 (hp_lt HBR.out))
      have hB2 : Below w.heap.size w w2 := hB.trans (hB1.mono hB.size)
      have HI := Lib.hid (idx_b4 (rd l) (rd_length l))
      clear HBM HBR hB1 hB a0 a1 a2 a3
      go_wp2_with fail
      go_loopw [14] (fun s14 wr => ∃ k : Nat, k ≤ 4 ∧ s14 = .int .i64 k ∧ wr.heap[M]? = some (.cells (bv (orTo (rd l) (mat1 l m) k)) 181 (0, 0)) ∧ wr.heap[R]? = some (.cells (bv [false, false, false, false]) 181 (0, 0)) ∧ Below w.heap.size w wr) (fun s14 _ => 4 - (intOf s14).toNat)
      case atStart => exact ⟨0, by omega, rfl, HBM1.out, HBR1.out, hB2⟩
      case round =>
        obtain ⟨k, hk, rfl, bM, bR, hB⟩ := hrel
        clear HBM1 HBR1 hB2
        have HBM := Lib.hid bM
        have HBR := Lib.hid bR
        clear bM bR
        by_cases hlt : k < 4
        · have hi := HI.out k hlt
          have m1 := hp_cell HBM.out (bv_get _ k (by rw [orTo_length, mat1_length, HM.out]; omega))
          have m2 := hp_free HBM.out k
          generalize hx : (rd l).getD k false = x at hi
          cases x
          · have HE := Lib.hid (show orTo (rd l) (mat1 l m) (k + 1) = orTo (rd l) (mat1 l m) k by rw [orTo, hx]; rfl)
            clear hx
            go_wp2_with fail
            go_roundw
            case rel => exact ⟨k + 1, by omega, by go_num, by rw [HE.out]; exact HBM.out, HBR.out, hB⟩
            case measure => simp [intOf]; omega
          · have HE := Lib.hid (show orTo (rd l) (mat1 l m) (k + 1) = (orTo (rd l) (mat1 l m) k).set k true by rw [orTo, hx]; rfl)
            clear hx
            go_wp2_with fail
            go_roundw
            case rel => exact ⟨k + 1, by omega, by go_num, by rw [HE.out, ← bv_set]; exact hp_put HBM.out _ _, hp_set HBR.out (fun e => hMR e.symm) _, hB.setCell (p := ⟨M, _, none⟩) hM _⟩
            case measure => simp [intOf]; omega
        · obtain rfl : k = 4 := by omega
          have HI4 := Lib.hid (info_bv4 (l := orTo (rd l) (mat1 l m) 4) (by rw [orTo_length, mat1_length, HM.out]))
          have HZ := Lib.hid (show (bv [false, false, false, false]).size = (bv (orTo (rd l) (mat1 l m) 4)).size by rw [bv_size, bv_size, orTo_length, mat1_length, HM.out]; rfl)
          go_wp2_with (first | (refine wpList_load_row rfl 181 (.tmp 3) rfl M rfl 181 _ (0, 0) _ HBM.out Tryz.underlying181 rfl HI4.out ?_) | (refine wpList_store_row rfl 181 (.tmp 4) (.tmp 22) rfl R _ rfl rfl 181 _ HBR.out HI4.out HZ.out (bv_one _) ?_))
          have K := hp_row_same HBR.out (bv (orTo (rd l) (mat1 l m) 4))
          refine bodyPost_ret (v := .agg (bv (orTo (rd l) (mat1 l m) 4))) ?_ rfl ⟨rfl, below_setRow hB hR _⟩
          exact results_cell_row (p := 4) (ty := 181) rfl _ _ R 181 _ (0, 0) _ (by simp [Act.put]) K Tryz.underlying181 rfl HI4.out

end Go.Proofs.YtigaklppdlknkaaGreat
