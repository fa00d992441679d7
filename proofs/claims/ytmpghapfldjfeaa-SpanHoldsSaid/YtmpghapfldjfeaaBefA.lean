/- Before of both: contracts. -/
import Derived.Test.YtmpghapfldjfeaaRefC
set_option linter.unusedVariables false
set_option linter.unusedSimpArgs false
namespace Go.Proofs.Ytmpghapfldjfeaa
open Go.RowKit Tinker

/-- The code of Before, and the state if there is one. -/
def befC (p : List L) (s : List Int) (n : Int) : Int := if vr p s = 0 then (if btw n 0 ((p.length : Int) - 1) then 0 else 4) else vr p s
def befO (p : List L) (s : List Int) (n : Int) : Option (List Int) := if befC p s n = 0 then befAt (runS p s) n.toNat else none
/-- A slice of numbers in memory, a bool, and a code. -/
def GivesB (o : Option (List Int)) (c : Int) (w : World) (e : Ending) (w' : World) : Prop :=
  ∃ a cap, e = .returned (.tuple #[.slice a (o.getD []).length cap, .bool o.isSome, .int .i64 c]) ∧ IntsAt w' a (o.getD []) ∧ Below w.heap.size w w'
theorem givesB_nil {c : Int} {w w' : World} (hB : Below w.heap.size w w') : GivesB none c w (.returned (.tuple #[.slice none 0 0, .bool false, .int .i64 c])) w' := ⟨none, 0, rfl, .inl rfl, hB⟩

set_option maxRecDepth 100000 in
set_option maxHeartbeats 1000000 in
theorem before_any (a b : Option Addr) (ca cb : Nat) (ps : List L) (s : List Int) (n : Int) (w : World) (hp : LinesAt w a ps) (hs : IntsAt w b s) (hm : s.length ≤ 1000) (hm2 : ps.length ≤ 1000) :
    Calls Try.prog 49 #[.slice a ps.length ca, .slice b s.length cb, .int .i64 n] w (GivesB (befO ps s n) (befC ps s n) w) := by
  have HV := Lib.hid (validateRun_any a b ca cb ps s w hp hs (by omega))
  by_cases hz : vr ps s = 0
  · have HL := Lib.hid (fun w => hasLine_any a ps.length ca n w hm2)
    have HZ := Lib.hid hz
    cases hb : btw n 0 ((ps.length : Int) - 1)
    · have HE := Lib.hid (show befC ps s n = 4 by unfold befC; rw [if_pos hz, hb]; rfl)
      have HP := Lib.hid (show befO ps s n = none by unfold befO; rw [HE.out]; rfl)
      rw [HP.out, HE.out]
      rw [hb] at HL
      clear hz hb
      go_enter Try.func49, Try.ntmps49
      go_wp2_with fail
      refine HV.out.mono ?_
      rintro e w1 ⟨rfl, hB1⟩
      rw [HZ.out]
      go_wp2_with (go_at_call 98; refine (HL.out _).mono ?_; rintro e w' ⟨rfl, rfl⟩)
      go_ret3
      exact givesB_nil hB1
    · have HE := Lib.hid (show befC ps s n = 0 by unfold befC; rw [if_pos hz, hb]; rfl)
      have HP := Lib.hid (show befO ps s n = befAt (runS ps s) n.toNat by unfold befO; rw [HE.out]; rfl)
      rw [hb] at HL
      obtain ⟨n0, n1⟩ := btw_true.1 hb
      have h8 := (vp_ok (vr_ok hz).1).1
      have hok := runE_ok hz
      have h4 := (vs_ok (vr_ok hz).2).1
      have HF := Lib.hid (fun w hp => follow_no a ca ps s w hp hz)
      have HS := Lib.hid (fun w hs => stateOf_any b cb s w h4 hs)
      have H4 := Lib.hid hok.1
      have HD := Lib.hid (befAt_done (runS ps s) (i := n.toNat) (by omega))
      have HB := Lib.hid (fun t (h : befAt (runS ps s) n.toNat = some t) => befL_get runS_asc h (by omega))
      have HOk := Lib.hid (fun t (h : befAt (runS ps s) n.toNat = some t) => (runS_ok hz _ (befAt_mem h)).1)
      have n8 : n < 8 := by omega
      clear h4 hz hok hb hm hm2
      go_enter Try.func49, Try.ntmps49
      go_wp2_with fail
      refine HV.out.mono ?_
      rintro e w1 ⟨rfl, hB1⟩
      rw [HZ.out]
      go_upto_region 6 with (go_at_call 98; refine (HL.out _).mono ?_; rintro e w' ⟨rfl, rfl⟩)
      go_cut [10] (fun s10 wx => ∃ C : Nat, s10 = .pointer (some ⟨C, 0, none⟩) ∧ wx.heap[C]? = some (.cells (cv (runE ps s) (doneL (runS ps s)) (befL (runS ps s))) 99 (0, 0)) ∧ Below w.heap.size w wx)
      case first =>
        go_wp2_with fail
        refine (HS.out _ (hs.below hB1 (Nat.le_refl _))).mono ?_
        rintro e w2 ⟨rfl, hB2⟩
        have hB3 := hB1.trans (hB2.mono hB1.size)
        go_wp2_with fail
        refine (HF.out _ (hp.below hB3 (Nat.le_refl _))).mono ?_
        rintro e w3 ⟨rfl, hB4⟩
        have hB5 := hB3.trans (hB4.mono hB3.size)
        have HI := Lib.hid (info_cr' (b := befL (runS ps s)) H4.out (doneL_length (runS ps s)) (befL_length _))
        have HZ2 := Lib.hid (cv_size (b := befL (runS ps s)) H4.out (doneL_length (runS ps s)) (befL_length _))
        have HC := Lib.hid (hp_row_same (cs := cv (runE ps s) (doneL (runS ps s)) (befL (runS ps s))) (hp_new (w := w3) (o := .cells cv0 99) rfl))
        have hB6 : Below w.heap.size w ((w3.alloc (.cells cv0 99)).setRow w3.heap.size (cv (runE ps s) (doneL (runS ps s)) (befL (runS ps s)))) := below_setRow (hB5.alloc hB5.size _) hB5.size _
        go_wp2_with (refine wpList_store_row rfl 99 (.tmp 10) (.tmp 25) rfl _ _ rfl rfl 99 _ (hp_new rfl) HI.out (by rw [HZ2.out]; rfl) (cv_one _ _ _) ?_)
        go_meet
        exact ⟨_, rfl, HC.out, hB6⟩
      case rest =>
        obtain ⟨C, rfl, hC, hB6⟩ := hcut
        have HC := Lib.hid hC
        clear hC hB1
        have hdn := hp_cell HC.out (cv_get1 (n := n.toNat) (b := befL (runS ps s)) H4.out (by rw [doneL_length]; omega))
        rw [HD.out] at hdn
        cases hbf : befAt (runS ps s) n.toNat with
        | none =>
          rw [hbf] at hdn
          have hdn' : Option.isSome (none : Option (List Int)) = false := rfl
          rw [hdn'] at hdn
          have HN := Lib.hid hbf
          clear hbf
          go_wp2_with fail
          go_ret3
          rw [HP.out, HE.out, HN.out]
          exact givesB_nil hB6
        | some t =>
          rw [hbf] at hdn
          have hdn' : Option.isSome (some t) = true := rfl
          rw [hdn'] at hdn
          have hbt := HB.out t hbf
          have ht4 := HOk.out t hbf
          have HCl := Lib.hid (show ∀ j z, t[j]? = some z → wc.cell? ⟨C, 12 + n.toNat * 4 + j, none⟩ = some (.int .i64 z) from fun j z hj => by
            have hj4 : j < 4 := by have := (List.getElem?_eq_some_iff.1 hj).1; omega
            have h := hp_cell HC.out (cv_get2 (n := n.toNat * 4 + j) (b := befL (runS ps s)) H4.out (doneL_length _) (by rw [befL_length]; omega))
            rw [hbt j hj4, getD_of_get hj] at h
            rw [Nat.add_assoc]; exact h)
          have HT4 := Lib.hid ht4
          have HN := Lib.hid hbf
          clear hbt ht4 hbf
          go_wp2_with fail
          refine (cloneInts_any C (12 + n.toNat * 4) 4 4 t _ HT4.out (by omega) (by omega) HCl.out (hp_lt HC.out)).mono ?_
          intro e w4 hG
          obtain ⟨a', c', rfl, hown, hB7⟩ := hG.wide hB6
          have HO := Lib.hid (ints_of_own hown).1
          clear hown hG
          go_wp2_with fail
          go_ret3
          rw [HP.out, HE.out, HN.out]
          exact ⟨a', c', rfl, HO.out, hB7⟩
  · have HE := Lib.hid (show befC ps s n = vr ps s by unfold befC; rw [if_neg hz])
    have HP := Lib.hid (show befO ps s n = none by unfold befO; rw [HE.out, if_neg hz])
    rw [HP.out, HE.out]
    generalize vr ps s = c at HV hz
    have hz1 : (c != 0) = true := by simpa using hz
    have hz2 : (c == 0) = false := by simpa using hz
    clear hz hp hs HE HP
    go_enter Try.func49, Try.ntmps49
    go_wp2_with fail
    refine HV.out.mono ?_
    rintro e w1 ⟨rfl, hB1⟩
    go_wp2_with fail
    go_ret3
    exact givesB_nil hB1

end Go.Proofs.Ytmpghapfldjfeaa
