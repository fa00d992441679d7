/- Table and Covered of both: contracts. -/
import Derived.Test.YtndmjenfgggfbaaTabA
set_option linter.unusedVariables false
set_option linter.unusedSimpArgs false
namespace Go.Proofs.Ytndmjenfgggfbaa
open Go.RowKit Tinker

set_option maxRecDepth 100000 in
set_option maxHeartbeats 1000000 in
theorem rDone_own (a b : Option Addr) (ca cb : Nat) (ps : List L) (s : List Int) (w : World) (hp : LinesAt w a ps) (hs : IntsAt w b s) :
    Calls Try.prog 73 #[.slice a ps.length ca, .slice b s.length cb] w (GivesIntsE (doneA ps s) (vr ps s) w) := by
  have HV := Lib.hid (asked_any a b ca cb ps s w hp hs)
  by_cases hz : vr ps s = 0
  · obtain ⟨i0, hi, hz0, hz1, hz2⟩ := info_parts info_int
    have h8 := (vp_ok (vr_ok hz).1).1
    have hrl : doneA ps s = linesOf (runS ps s) := by unfold doneA; rw [if_pos hz]; exact plc_done runS_asc fun x hx => by have := runS_lt x hx; omega
    have hlen := runS_len (ps := ps) (s := s)
    rw [hrl]
    clear hrl
    have HT := Lib.hid (fun w hp hs => trace_no a b ca cb ps s w hp hs hz)
    have HZ := Lib.hid hz
    clear hz
    generalize hst : runS ps s = st at HT hlen
    clear hst
    go_enter Try.func73, Try.ntmps73
    go_wp2_with fail
    refine HV.out.mono ?_
    rintro e w1 ⟨rfl, hB1⟩
    rw [HZ.out]
    go_wp2_with fail
    refine (HT.out _ (hp.below hB1 (Nat.le_refl _)) (hs.below hB1 (Nat.le_refl _))).mono ?_
    intro e w2 hG
    obtain ⟨a1, c1, b1, cb1, rfl, hst, _, _, hB2⟩ := hG
    have hB3 := hB1.trans (hB2.mono hB1.size)
    clear hp hs hB1 hB2
    have HST := Lib.hid hst
    clear hst
    go_wp2_with fail
    go_loopw [7, 10] (fun s7 s10 wr => ∃ (k : Nat) (v : Value), k ≤ st.length ∧ s7 = v ∧ s10 = .int .i64 k ∧ wr.ownsRow w2.heap.size 3 1 v k ((linesOf (st.take k)).map (Value.int .i64)) ∧ Below w2.heap.size w2 wr) (fun _ s10 _ => st.length - (intOf s10).toNat)
    case atStart => exact ⟨0, _, Nat.zero_le _, rfl, rfl, World.ownsRow_nil _ _ _ _, Below.refl _ _⟩
    case round =>
      obtain ⟨k, v, hk, hv0, rfl, hown, hB⟩ := hrel
      have hv0' := hv0.symm
      subst hv0'
      by_cases hlt : k < st.length
      · obtain ⟨g, i, t, bb, cc, rfl, hx, hc1, hc2, _⟩ := (HST.out.below hB (Nat.le_refl _)).at_ hlt
        have HX := Lib.hid hx
        have hsz := hB.size
        clear hx
        go_wp2_with (at_builtin; go_loud (refine wpList_append_own _ rfl (.tmp 29) (.tmp 35) 23 rfl w2.heap.size 3 i0 (.int .i64 0) 1 8 Try.underlying23 hi hz0 hz1 hz2 rfl (by decide) _ _ _ rfl (hown.alloc _) ⟨wr.heap.size, 0, none⟩ 1 1 [.int .i64 i] rfl rfl ?c1 ?c2 ?c3 ?c4 ?c5 ?_))
        case c2 => simp [Value.oneCell']
        case c3 => unfold maxLen; omega
        case c4 => omega
        case c5 => omega
        intro v' w3 hown' hgrow _
        have hB1 : Below w2.heap.size w2 w3 := (hB.alloc hB.size _).grown hgrow (by have := hB.size; simp; omega) (own_base hown)
        have e : (linesOf (st.take k)).map (Value.int .i64) ++ [.int .i64 (i : Int)] = (linesOf (st.take (k + 1))).map (Value.int .i64) := by rw [linesOf_snoc HX.out]; simp
        rw [e] at hown'
        have HO := Lib.hid hown'
        clear hown hown' hgrow e
        go_wp2_with fail
        go_roundw
        case rel => exact ⟨k + 1, _, by omega, rfl, by go_num, HO.out, hB1⟩
        case measure => simp [intOf]; omega
      · have hk' : k = st.length := by omega
        subst hk'
        rw [List.take_length] at hown
        obtain ⟨a2, c2, rfl⟩ := own_slice hown
        have hl : (linesOf st).length = st.length := by simp [linesOf]
        have HG := Lib.hid (show GivesIntsE (linesOf st) (vr ps s) w (.returned (.tuple #[.slice a2 st.length c2, .int .i64 0])) wr from ⟨a2, c2, by rw [hl, HZ.out], by rw [hl]; exact own_mono hown hB3.size, hB3.trans (hB.mono hB3.size)⟩)
        clear hown hl
        go_wp2_with fail
        go_ret2
        exact HG.out
  · have hrl : doneA ps s = [] := by unfold doneA; rw [if_neg hz]
    rw [hrl]
    clear hrl
    generalize vr ps s = c at *
    have hz1 : (c != 0) = true := by simpa using hz
    have hz2 : (c == 0) = false := by simpa using hz
    clear hz hp hs
    go_enter Try.func73, Try.ntmps73
    go_wp2_with fail
    refine HV.out.mono ?_
    rintro e w1 ⟨rfl, hB1⟩
    go_wp2_with fail
    go_ret2
    exact givesIntsE_nil hB1


theorem rowTo_done (n : Nat) (D : List Int) : rowTo n D D.length = rowTo n D D.length := rfl

set_option maxRecDepth 100000 in
set_option maxHeartbeats 4000000 in
theorem rTable_any (a g : Option Addr) (ca cap : Nat) (ps : List L) (ts : List T) (w : World) (hp : LinesAt w a ps) (hts : TestsAt w g ts) :
    Calls Try.prog 31 #[.slice a ps.length ca, .slice g ts.length cap] w (GivesRowsE (tabL ps ts) (vpt ps ts) w) := by
  obtain ⟨j0, hj, jz0, jz1, jz2⟩ := info_parts info_ints
  have HV := Lib.hid (fun w hp hts => rTested_any a g ca cap ps ts w hp hts)
  by_cases hz : vpt ps ts = 0
  · obtain ⟨h1, h2⟩ := vpt_ok hz
    obtain ⟨t8, hT⟩ := vts_ok h2
    rw [tabL_ok hz, hz]
    rw [hz] at HV
    have hmk := mkInts ps.length (vp_ok h1).1
    clear hz
    go_enter Try.func31, Try.ntmps31
    go_wp2_with fail
    refine (HV.out _ hp hts).mono ?_
    rintro e w1 ⟨rfl, hB⟩
    have HB := Lib.hid hB
    clear hB
    go_wp2_with fail
    go_loopw [7, 8] (fun s7 s8 wr => ∃ (k : Nat) (xs : List Value), k ≤ ts.length ∧ s8 = .int .i64 k ∧ RowsI w s7 ((ts.take k).map (fun t => rowL ps t.inn)) xs wr) (fun _ s8 _ => ts.length - (intOf s8).toNat)
    case atStart => exact ⟨0, [], Nat.zero_le _, rfl, RowsI.nil HB.out⟩
    case round =>
      obtain ⟨k, xs, hk, rfl, hI⟩ := hrel
      obtain ⟨wo, rfl⟩ : ∃ wo : World, wo = wr := ⟨_, rfl⟩
      by_cases hlt : k < ts.length
      · obtain ⟨gb, off, t, a', c, rfl, hlb, ht, c0, c1, c2, hi⟩ := (hts.below hI.below (Nat.le_refl _)).at_ hlt
        have hz : vr ps t.inn = 0 := by unfold vr fe; rw [if_pos h1]; exact (isT_ok (hT t (mem_of_get ht))).1
        have HD := Lib.hid (fun w hp hs => rDone_own a a' ca c ps t.inn w hp hs)
        rw [hz] at HD
        have HIN := Lib.hid (done_in hz)
        have D8 := doneA_len ps t.inn
        have h8 := (vp_ok h1).1
        have HS := Lib.hid (map_take_snoc (fun t => rowL ps t.inn) ht)
        have HL := Lib.hid (show rowL ps t.inn = rowTo ps.length (doneA ps t.inn) (doneA ps t.inn).length from rfl)
        have HTL := Lib.hid (show ((ts.take k).map (fun t => rowL ps t.inn)).length = k by simp; omega)
        generalize rowL ps t.inn = R at HL HS
        generalize doneA ps t.inn = D at HD HIN HL D8
        have HI := Lib.hid hI
        have hlw := hI.below.size
        have HPA := Lib.hid ((hp.below hI.below (Nat.le_refl _)).below ((Below.refl wo.heap.size wo).alloc (Nat.le_refl _) (.cells (iv (List.replicate ps.length 0)) 3)) (Nat.le_refl _))
        have HII := Lib.hid (hi.below ((Below.refl wo.heap.size wo).alloc (Nat.le_refl _) (.cells (iv (List.replicate ps.length 0)) 3)) (Nat.le_refl _))
        have HRI := Lib.hid (show RowI wo.heap.size (List.replicate ps.length 0) wo (wo.alloc (.cells (iv (List.replicate ps.length 0)) 3)) from ⟨hp_new rfl, (Below.refl _ _).alloc (Nat.le_refl _) _⟩)
        clear hI ht hi hz
        go_wp2_with fail
        refine (HD.out _ HPA.out HII.out).mono ?_
        intro e w2 hG
        obtain ⟨a1, k1, rfl, ho1, hB1⟩ := hG
        have HD1 := Lib.hid (ints_of_own ho1).1
        have HA1 := Lib.hid (own_apart ho1 (hp_lt HRI.out.bm))
        have HR2 := Lib.hid (HRI.out.low hB1)
        clear ho1 hB1 HRI HD
        go_wp2_with fail
        go_loopw [12] (fun s12 wr => ∃ q : Nat, q ≤ D.length ∧ s12 = .int .i64 q ∧ RowI wo.heap.size (rowTo ps.length D q) wo wr ∧ IntsAt wr a1 D) (fun s12 _ => D.length - (intOf s12).toNat)
        case atStart => exact ⟨0, by omega, rfl, HR2.out, HD1.out⟩
        case round =>
          clear HR2 HD1
          obtain ⟨q, hq, rfl, hI, hd⟩ := hrel
          by_cases hlt2 : q < D.length
          · obtain ⟨sb, so, x, rfl, hsb, hx, z0⟩ := hd.at_ hlt2
            obtain ⟨r0, r3⟩ := HIN.out x (mem_of_get hx)
            have m1 := hp_cell hI.bm (iv_get (rowTo ps.length D q) x (by rw [rowTo_length]; omega))
            have m2 := hp_free hI.bm x.toNat
            have HX := Lib.hid hx
            have HI2 := Lib.hid hI
            have HDD := Lib.hid hd
            clear hx hI hd
            go_wp2_with fail
            go_roundw
            case rel => exact ⟨q + 1, by omega, by go_num, by rw [rowTo, getD_of_get HX.out]; exact HI2.out.put (Nat.le_refl _) _ _, ints_set HDD.out HA1.out _ _⟩
            case measure => simp [intOf]; omega
          · obtain rfl : q = D.length := by omega
            rw [← HL.out] at hI
            have hRL : R.length = ps.length := by rw [HL.out]; exact rowTo_length _ _ _
            have hR2 := HI.out.low hI.below
            have hv0 : ∀ b, u7.ownBlock = some b → b < wo.heap.size := fun b e => own_val_lt HI.out.out e
            have hal : Below wr.heap.size wr (wr.alloc (.cells #[.slice (some ⟨wo.heap.size, 0, none⟩) ps.length ps.length] 23)) := (Below.refl _ _).alloc (Nat.le_refl _) _
            have hOL := (hI.low hal).own (Nat.le_refl _) (o := u7.ownBlock) (base := w.heap.size) (fun e => by have := hv0 _ e; omega) (by omega)
            have HR3 := Lib.hid (hR2.low hal)
            have HOL := Lib.hid hOL
            have HRL := Lib.hid hRL
            have hlq := hI.below.size
            clear hI hd hR2 hOL hal hv0 hRL HI
            go_wp2_with (at_builtin; refine wpList_append_own_at _ rfl (.tmp 50) (.tmp 52) 40 rfl w.heap.size 23 j0 (.slice none 0 0) 1 24 Try.underlying40 hj jz0 jz1 jz2 rfl (by decide) _ _ xs rfl HR3.out.out ⟨wr.heap.size, 0, none⟩ 1 1 [.slice (some ⟨wo.heap.size, 0, none⟩) ps.length ps.length] rfl ?d1 ?d2 ?d3 ?d4 ?d5 ?d6 ?_)
            case d1 => rfl
            case d2 => exact cell_one_new _ _ _
            case d3 => simp [Value.oneCell']
            case d4 => rw [HTL.out]; unfold maxLen; omega
            case d5 => rw [HTL.out]; omega
            case d6 => simp; omega
            intro v2 w3 hown3 hgrow2 _ hat
            have hP := HR3.out.push (c := ps.length) HOL.out (by rw [HRL.out, HTL.out]; exact hown3) hgrow2 (by simpa using hat)
            rw [← HS.out] at hP
            have HP := Lib.hid hP
            clear hown3 hgrow2 hat hP
            go_wp2_with fail
            go_roundw
            case rel => exact ⟨k + 1, _, by omega, by go_num, HP.out⟩
            case measure => simp [intOf]; omega
      · obtain rfl : k = ts.length := by omega
        rw [List.take_of_length_le (Nat.le_refl _)] at hI
        obtain ⟨aa, cc, e, hr, hb⟩ := hI.gives
        have HLL := Lib.hid (show (ts.map (fun t => rowL ps t.inn)).length = ts.length by simp)
        rw [HLL.out] at e
        injection e with e
        subst e
        have HR := Lib.hid hr
        clear hI hr
        go_wp2_with fail
        go_ret2
        exact ⟨aa, cc, by rw [HLL.out] <;> rfl, HR.out, hb⟩
  · rw [tabL_no hz]
    generalize vpt ps ts = c at HV hz
    have hz1 : (c != 0) = true := by simpa using hz
    have hz2 : (c == 0) = false := by simpa using hz
    clear hz
    go_enter Try.func31, Try.ntmps31
    go_wp2_with fail
    refine (HV.out _ hp hts).mono ?_
    rintro e w1 ⟨rfl, hB⟩
    go_wp2_with fail
    go_ret2
    exact givesRowsE_nil hB

end Go.Proofs.Ytndmjenfgggfbaa
