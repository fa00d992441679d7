/- reads, set, Reads, Writes of the document's answers: contracts. -/
import Derived.Test.YtmideaancmpafaaLineB
set_option linter.unusedVariables false
set_option linter.unusedSimpArgs false
namespace Go.Proofs.Ytmideaancmpafaa
open Go.RowKit Tinker

theorem mk4 (w : World) : (Instr.makeSlice 87 (.int .i64 4) (.int .i64 4)).run Try.prog w = .ok (.slice (some ⟨w.heap.size, 0, none⟩) 4 4) (w.alloc (.cells #[.bool false, .bool false, .bool false, .bool false] 4)) := by kernel_rfl

/-- A new slice of bools. -/
def GivesBools (n : Nat) (bs : List Bool) (w : World) (e : Ending) (w' : World) : Prop := ∃ b, e = .returned (.slice (some ⟨b, 0, none⟩) n n) ∧ w'.heap[b]? = some (.cells (bv bs) 4 (0, 0)) ∧ w.heap.size ≤ b ∧ Below w.heap.size w w'

set_option maxRecDepth 100000 in
set_option maxHeartbeats 1000000 in
theorem rReads_any (l : L) (w : World) (hl : isLn l = true) : Calls Try.prog 73 #[lv l] w (GivesBools 4 (rd l) w) := by
  have hmk := mk4
  have ho := isLn_op hl
  have hA := isLn_a hl
  have hB' := isLn_b hl
  unfold lv
  go_enter Try.func73, Try.ntmps73
  go_upto_region 1 with fail
  go_cut [3] (fun s3 wx => ∃ b : Nat, s3 = .slice (some ⟨b, 0, none⟩) 4 4 ∧ wx.heap[b]? = some (.cells (bv [false, false, false, false]) 4 (0, 0)) ∧ w.heap.size < b ∧ wx.heap[w.heap.size]? = some (.cells #[.int .i64 l.op, .int .i64 l.to, .int .i64 l.a, .int .i64 l.b] 40 (0, 0)) ∧ Below w.heap.size w wx)
  case first =>
    go_wp2_with fail
    go_meet
    exact ⟨_, rfl, hp_new (by simp), by omega, hp_alloc (hp_new rfl), ((Below.refl _ _).alloc (Nat.le_refl _) _).alloc (by simp) _⟩
  case rest =>
    clear hmk
    obtain ⟨b, rfl, bb, hb, bl, hB⟩ := hcut
    have a0 := hp_cell bl (j := 0) (by rfl)
    have a2 := hp_cell bl (j := 2) (by rfl)
    have a3 := hp_cell bl (j := 3) (by rfl)
    have HB := Lib.hid bb
    have hbn : ¬ b = w.heap.size := by omega
    have hbn2 : ¬ w.heap.size = b := by omega
    clear bb bl
    by_cases h2 : 2 ≤ l.op
    · obtain ⟨x1, x2⟩ := hA h2
      have x4 : l.a < 4 := by omega
      have c1 := hp_cell HB.out (bv_get _ l.a.toNat (by simp; omega))
      have c2 := hp_free HB.out l.a.toNat
      have HB1 := Lib.hid (hp_put HB.out l.a.toNat (.bool true))
      rw [bv_set] at HB1
      by_cases h3 : 3 ≤ l.op
      · obtain ⟨y1, y2⟩ := hB' h3
        have y4 : l.b < 4 := by omega
        have d1 := hp_cell HB1.out (bv_get _ l.b.toNat (by simp; omega))
        have d2 := hp_free HB1.out l.b.toNat
        have HB2 := Lib.hid (hp_put HB1.out l.b.toNat (.bool true))
        rw [bv_set] at HB2
        have HE := Lib.hid (show rd l = ([false, false, false, false].set l.a.toNat true).set l.b.toNat true by unfold rd; rw [if_pos h3, if_pos h2])
        clear hA hB'
        go_wp2_with fail
        go_ret
        exact ⟨b, rfl, by rw [HE.out]; exact HB2.out, by omega, (hB.setCell (p := ⟨b, _, none⟩) (by show _ ≤ b; omega) _).setCell (p := ⟨b, _, none⟩) (by show _ ≤ b; omega) _⟩
      · have HE := Lib.hid (show rd l = [false, false, false, false].set l.a.toNat true by unfold rd; rw [if_neg h3, if_pos h2])
        clear hA hB'
        go_wp2_with fail
        go_ret
        exact ⟨b, rfl, by rw [HE.out]; exact HB1.out, by omega, hB.setCell (p := ⟨b, _, none⟩) (by show _ ≤ b; omega) _⟩
    · have h3 : ¬ 3 ≤ l.op := by omega
      have HE := Lib.hid (show rd l = [false, false, false, false] by unfold rd; rw [if_neg h3, if_neg h2])
      clear hA hB'
      go_wp2_with fail
      go_ret
      exact ⟨b, rfl, by rw [HE.out]; exact HB.out, by omega, hB⟩

set_option maxRecDepth 100000 in
set_option maxHeartbeats 400000 in
theorem rSet_any (b off cap : Nat) (bs : List Bool) (w : World) (hp : BoolsAt w b off bs) (hb : b < w.heap.size) (hm : bs.length ≤ 1000) :
    Calls Try.prog 72 #[.slice (some ⟨b, off, none⟩) bs.length cap] w (GivesInts (plc bs) w) := by
  obtain ⟨i0, hi, hz0, hz1, hz2⟩ := info_parts info_int
  go_enter Try.func72, Try.ntmps72
  go_wp2_with fail
  go_loopw [3, 4] (fun s3 s8 wr => ∃ k : Nat, k ≤ bs.length ∧ s8 = .int .i64 k ∧ wr.ownsRow w.heap.size 3 1 s3 (plcTo bs k).length ((plcTo bs k).map (Value.int .i64)) ∧ Below w.heap.size w wr) (fun _ s8 _ => bs.length - (intOf s8).toNat)
  case atStart => exact ⟨0, Nat.zero_le _, rfl, World.ownsRow_nil _ _ _ _, Below.refl _ _⟩
  case round =>
    obtain ⟨k, hk, rfl, hown, hB⟩ := hrel
    by_cases hlt : k < bs.length
    · obtain ⟨x, hx⟩ := get_of_lt hlt
      have hc := hp.below hB hb k x hx
      have HX := Lib.hid hx
      have hl := plcTo_length bs k
      cases x
      · have HO := Lib.hid hown
        clear hx hown hp
        go_wp2_with fail
        go_roundw
        case rel => exact ⟨k + 1, by omega, by go_num, by rw [plcTo_no HX.out]; exact HO.out, hB⟩
        case measure => simp [intOf]; omega
      · clear hx hp
        go_wp2_with (at_builtin; refine wpList_append_own _ rfl (.tmp 15) (.tmp 17) 23 rfl w.heap.size 3 i0 (.int .i64 0) 1 8 Try.underlying23 hi hz0 hz1 hz2 rfl (by decide) _ _ _ rfl (hown.alloc _) ⟨wr.heap.size, 0, none⟩ 1 1 [.int .i64 k] rfl rfl ?c1 ?c2 ?c3 ?c4 ?c5 ?_)
        case c1 => exact cell_one_new _ _ _
        case c2 => simp [Value.oneCell']
        case c3 => unfold maxLen; omega
        case c4 => omega
        case c5 => have := hB.size; simp; omega
        intro v' w1 hown' hgrow _
        have hB1 : Below w.heap.size w w1 := (hB.alloc hB.size _).grown hgrow (by have := hB.size; simp; omega) (own_base hown)
        have e : (plcTo bs k).map (Value.int .i64) ++ [.int .i64 k] = (plcTo bs (k + 1)).map (Value.int .i64) := by rw [plcTo_yes HX.out]; simp
        have e2 : (plcTo bs k).length + 1 = (plcTo bs (k + 1)).length := by rw [plcTo_yes HX.out]; simp
        rw [e, e2] at hown'
        have HO := Lib.hid hown'
        clear hown hown' hgrow e e2
        go_wp2_with fail
        go_roundw
        case rel => exact ⟨k + 1, by omega, by go_num, HO.out, hB1⟩
        case measure => simp [intOf]; omega
    · have hk' : k = bs.length := by omega
      subst hk'
      have HO := Lib.hid hown
      clear hown
      go_wp2_with fail
      go_ret
      exact givesInts_of rfl HO.out hB

set_option maxRecDepth 100000 in
set_option maxHeartbeats 1000000 in
theorem rReads_A (l : L) (w : World) : Calls Try.prog 32 #[lv l] w (GivesIntsE (rdA l) (vl l) w) := by
  have HV := Lib.hid (fun w => rIsLine_any l w)
  cases hv : isLn l
  · have H1 := Lib.hid (show vl l = 1 by unfold vl; rw [hv]; rfl)
    have H2 := Lib.hid (show rdA l = [] by unfold rdA; rw [hv]; rfl)
    rw [H1.out, H2.out]
    rw [hv] at HV
    unfold lv at HV ⊢
    clear hv
    go_enter Try.func32, Try.ntmps32
    go_wp2_with fail
    refine (HV.out _).mono ?_
    rintro e w1 ⟨rfl, hB⟩
    go_wp2_with fail
    go_ret2
    exact givesIntsE_nil (((Below.refl _ _).alloc (Nat.le_refl _) _).trans (hB.mono (by simp)))
  · have H1 := Lib.hid (show vl l = 0 by unfold vl; rw [hv]; rfl)
    have H2 := Lib.hid (show rdA l = plc (rd l) by unfold rdA; rw [hv]; rfl)
    have HR := Lib.hid (fun w => rReads_any l w hv)
    rw [H1.out, H2.out]
    rw [hv] at HV
    unfold lv at HV HR ⊢
    have HL := Lib.hid (rd_length l)
    clear hv
    go_enter Try.func32, Try.ntmps32
    go_wp2_with fail
    refine (HV.out _).mono ?_
    rintro e w1 ⟨rfl, hB⟩
    have hb : (w1.heap[w.heap.size]? = some (.cells #[.int .i64 l.op, .int .i64 l.to, .int .i64 l.a, .int .i64 l.b] 40 (0, 0))) := hp_below (hp_new rfl) hB (by simp)
    have a0 := hp_cell hb (j := 0) (by rfl)
    have a1 := hp_cell hb (j := 1) (by rfl)
    have a2 := hp_cell hb (j := 2) (by rfl)
    have a3 := hp_cell hb (j := 3) (by rfl)
    have hB1 : Below w.heap.size w w1 := ((Below.refl _ _).alloc (Nat.le_refl _) _).trans (hB.mono (by simp))
    clear hb hB
    go_wp2_with fail
    refine (HR.out _).mono ?_
    intro e w2 hG
    obtain ⟨b, rfl, hbb, hlb, hB2⟩ := hG
    have hB3 := hB1.trans (hB2.mono hB1.size)
    have HP := Lib.hid (rSet_any b 0 4 (rd l) w2 (fun j n hj => by rw [Nat.zero_add]; have h := hp_cell hbb (bv_get (rd l) j (List.getElem?_eq_some_iff.1 hj).1); rwa [getD_of_get hj] at h) (hp_lt hbb) (by rw [HL.out]; omega))
    rw [HL.out] at HP
    clear a0 a1 a2 a3 hbb
    go_wp2_with fail
    refine HP.out.mono ?_
    intro e w4 hG
    obtain ⟨a', c', rfl, hown, hB7⟩ := hG.wide hB3
    have HO := Lib.hid hown
    clear hown hG
    go_wp2_with fail
    go_ret2
    exact ⟨a', c', rfl, HO.out, hB7⟩

set_option maxRecDepth 100000 in
set_option maxHeartbeats 1000000 in
theorem rWrites_A (l : L) (w : World) : Calls Try.prog 33 #[lv l] w fun e w' => e = .returned (.tuple #[.int .i64 (wrN l), .bool (wrB l), .int .i64 (vl l)]) ∧ Below w.heap.size w w' := by
  have HV := Lib.hid (fun w => rIsLine_any l w)
  have HR := Lib.hid (fun w => rWrites_any l w)
  unfold lv at HV HR ⊢
  cases hv : isLn l
  · have H1 := Lib.hid (show vl l = 1 by unfold vl; rw [hv]; rfl)
    have H2 := Lib.hid (show wrN l = 0 by unfold wrN; rw [hv]; rfl)
    have H3 := Lib.hid (show wrB l = false by unfold wrB; rw [hv]; rfl)
    rw [H1.out, H2.out, H3.out]
    rw [hv] at HV
    clear hv
    go_enter Try.func33, Try.ntmps33
    go_wp2_with fail
    refine (HV.out _).mono ?_
    rintro e w1 ⟨rfl, hB⟩
    go_wp2_with fail
    go_ret3
    exact ⟨rfl, ((Below.refl _ _).alloc (Nat.le_refl _) _).trans (hB.mono (by simp))⟩
  · have H1 := Lib.hid (show vl l = 0 by unfold vl; rw [hv]; rfl)
    rw [H1.out]
    rw [hv] at HV
    cases hw : Tinker.wr l
    · have H2 := Lib.hid (show wrN l = 0 by unfold wrN; rw [hv, hw]; rfl)
      have H3 := Lib.hid (show wrB l = false by unfold wrB; rw [hv, hw]; rfl)
      rw [H2.out, H3.out]
      rw [hw] at HR
      clear hv hw
      go_enter Try.func33, Try.ntmps33
      go_wp2_with fail
      refine (HV.out _).mono ?_
      rintro e w1 ⟨rfl, hB⟩
      have hb : (w1.heap[w.heap.size]? = some (.cells #[.int .i64 l.op, .int .i64 l.to, .int .i64 l.a, .int .i64 l.b] 40 (0, 0))) := hp_below (hp_new rfl) hB (by simp)
      have a0 := hp_cell hb (j := 0) (by rfl)
      have a1 := hp_cell hb (j := 1) (by rfl)
      have a2 := hp_cell hb (j := 2) (by rfl)
      have a3 := hp_cell hb (j := 3) (by rfl)
      have hB1 : Below w.heap.size w w1 := ((Below.refl _ _).alloc (Nat.le_refl _) _).trans (hB.mono (by simp))
      clear hb hB
      go_wp2_with fail
      refine (HR.out _).mono ?_
      rintro e w2 ⟨rfl, hB2⟩
      clear a0 a1 a2 a3
      go_wp2_with fail
      go_ret3
      exact ⟨rfl, hB1.trans (hB2.mono hB1.size)⟩
    · have H2 := Lib.hid (show wrN l = l.to by unfold wrN; rw [hv, hw]; rfl)
      have H3 := Lib.hid (show wrB l = true by unfold wrB; rw [hv, hw]; rfl)
      rw [H2.out, H3.out]
      rw [hw] at HR
      clear hv hw
      go_enter Try.func33, Try.ntmps33
      go_wp2_with fail
      refine (HV.out _).mono ?_
      rintro e w1 ⟨rfl, hB⟩
      have hb : (w1.heap[w.heap.size]? = some (.cells #[.int .i64 l.op, .int .i64 l.to, .int .i64 l.a, .int .i64 l.b] 40 (0, 0))) := hp_below (hp_new rfl) hB (by simp)
      have a0 := hp_cell hb (j := 0) (by rfl)
      have a1 := hp_cell hb (j := 1) (by rfl)
      have a2 := hp_cell hb (j := 2) (by rfl)
      have a3 := hp_cell hb (j := 3) (by rfl)
      have HBL := Lib.hid hb
      have hB1 : Below w.heap.size w w1 := ((Below.refl _ _).alloc (Nat.le_refl _) _).trans (hB.mono (by simp))
      clear hb hB
      go_wp2_with fail
      refine (HR.out _).mono ?_
      rintro e w2 ⟨rfl, hB2⟩
      have b1 := hp_cell (hp_below HBL.out hB2 (hp_lt HBL.out)) (j := 1) (by rfl)
      clear a0 a1 a2 a3
      go_wp2_with fail
      go_ret3
      exact ⟨rfl, hB1.trans (hB2.mono hB1.size)⟩

end Go.Proofs.Ytmideaancmpafaa
