/- validateSearch, Count, Places of seek: contracts. -/
import Derived.Test.YtjciojoeifekeaaGreatFxE
set_option linter.unusedVariables false
set_option linter.unusedSimpArgs false
namespace Go.Proofs.YtjciojoeifekeaaGreat
open Go.RowKit Go.Shelf Tinker

/-- How many single repairs there are at the first places; whether there are any at a place. -/
def cnT (ps : List L) (ts : List T) (n : Int) : Nat → Nat
  | 0 => 0
  | k + 1 => cnT ps ts n k + (fxL ps ts k n).length
def hsL (ps : List L) (ts : List T) (n : Int) : List Bool := (List.range ps.length).map fun i => decide (0 < (fxL ps ts i n).length)
theorem hsL_len (ps : List L) (ts : List T) (n : Int) : (hsL ps ts n).length = ps.length := by unfold hsL; rw [List.length_map, List.length_range]
theorem hsL_get {ps : List L} {ts : List T} {n : Int} {k : Nat} (h : k < ps.length) : (hsL ps ts n)[k]? = some (decide (0 < (fxL ps ts k n).length)) := by
  unfold hsL
  rw [List.getElem?_map, List.getElem?_range h]
  rfl
theorem cnT_le (ps : List L) (ts : List T) (n : Int) : ∀ k, cnT ps ts n k ≤ 1000 * k
  | 0 => Nat.le_refl _
  | k + 1 => by
    have := cnT_le ps ts n k
    have := fx_len9 ps ts k n
    show cnT ps ts n k + (fxL ps ts k n).length ≤ _
    omega
theorem cnT_plc (ps : List L) (ts : List T) (n : Int) : ∀ k, k ≤ ps.length → (plcTo (hsL ps ts n) k).length ≤ cnT ps ts n k ∧ (0 < cnT ps ts n k ↔ 0 < (plcTo (hsL ps ts n) k).length)
  | 0, _ => by
    rw [plcTo_zero]
    exact ⟨Nat.le_refl _, Iff.rfl⟩
  | k + 1, hk => by
    obtain ⟨h1, h2⟩ := cnT_plc ps ts n k (by omega)
    have hg := hsL_get (ts := ts) (n := n) (show k < ps.length by omega)
    show _ ≤ cnT ps ts n k + (fxL ps ts k n).length ∧ (0 < cnT ps ts n k + (fxL ps ts k n).length ↔ _)
    by_cases hd : 0 < (fxL ps ts k n).length
    · rw [decide_eq_true hd] at hg
      rw [plcTo_yes hg, List.length_append, List.length_singleton]
      omega
    · rw [decide_eq_false hd] at hg
      rw [plcTo_no hg]
      omega
def cnR (ps : List L) (ts : List T) (n : Int) : Int := if skC ps ts n = 0 then (cnT ps ts n ps.length : Nat) else 0
def fpR (ps : List L) (ts : List T) (n : Int) : List Int := if skC ps ts n = 0 then plc (hsL ps ts n) else []
theorem fp_plc (ps : List L) (ts : List T) (n : Int) : plc (hsL ps ts n) = plcTo (hsL ps ts n) ps.length := by unfold plc; rw [hsL_len]
theorem set_to {α : Type} {l : List α} {z v : α} {k m : Nat} (h : l[k]? = some v) (hm : l.length = m) : (l.take k ++ List.replicate (m - k) z).set k v = l.take (k + 1) ++ List.replicate (m - (k + 1)) z := by
  have hk : k < l.length := (List.getElem?_eq_some_iff.1 h).1
  rw [show m - k = (m - (k + 1)) + 1 by omega, List.replicate_succ, List.set_append_right _ _ (by rw [List.length_take]; omega), List.length_take, show k - min k l.length = 0 by omega, List.set_cons_zero, take_snoc h, List.append_assoc]
  rfl
theorem bools_at {W : World} {g : Nat} {bs : List Bool} {t : TypeId} (h : W.heap[g]? = some (.cells (bv bs) t (0, 0))) : BoolsAt W g 0 bs := fun j n hj => by
  rw [Nat.zero_add]
  have hj' := (List.getElem?_eq_some_iff.1 hj).1
  have := hp_cell h (bv_get bs j hj')
  rw [getD_of_get hj] at this
  exact this

set_option maxRecDepth 100000 in
set_option maxHeartbeats 1000000 in
theorem sValidateSearch_any (a h : Option Addr) (ca ch : Nat) (ps : List L) (ts : List T) (n : Int) (w : World) (hp : LinesAt w a ps) (hts : TestsAt w h ts) (hm : ps.length ≤ 1000) (hm2 : ts.length ≤ 1000) (hml : ∀ t ∈ ts, t.inn.length ≤ 1000) :
    Calls Tryz.prog 52 #[.slice a ps.length ca, .slice h ts.length ch, .int .i64 n] w fun e w' => e = .returned (.int .i64 (skC ps ts n)) ∧ Below w.heap.size w w' := by
  have H1 := Lib.hid (fun w h1 h2 => sValidateTests_any a h ca ch ps ts w h1 h2 hm hm2 hml)
  have H3 := Lib.hid (fun w => validateKind_any n w)
  have H4 := Lib.hid (fun w h1 h2 => sValidateNeed_any a h ca ch ps ts w h1 h2 hm hm2 hml)
  have HP := Lib.hid hp
  have HT := Lib.hid hts
  unfold skC
  generalize feL [vp ps, vts ts] = d1 at *
  generalize kdC n = d3 at *
  generalize ndC ps ts = d4 at *
  clear hp hts hml
  go_enter Tryz.func52, Tryz.ntmps52
  go_wp2_with fail
  refine (H1.out _ HP.out HT.out).mono ?_
  rintro e w1 ⟨rfl, hB⟩
  have HB1 := Lib.hid hB
  clear hB
  go_wp2_with fail
  refine (H3.out _).mono ?_
  rintro e w2 ⟨rfl, hB⟩
  have HB2 := Lib.hid (HB1.out.trans (hB.mono HB1.out.size))
  clear hB
  go_wp2_with fail
  refine (H4.out _ (HP.out.below HB2.out (Nat.le_refl _)) (HT.out.below HB2.out (Nat.le_refl _))).mono ?_
  rintro e w3 ⟨rfl, hB⟩
  have HB3 := Lib.hid (HB2.out.trans (hB.mono HB2.out.size))
  clear hB
  go_wp2_with fail
  refine (firstError_any _ 3 [d1, d3, d4] _ (ints_lit' (zs := [d1, d3, d4]) rfl) (by simp)).mono ?_
  rintro e w4 ⟨rfl, rfl⟩
  have HB4 := Lib.hid (HB3.out.alloc HB3.out.size (.cells (iv [d1, d3, d4]) 25))
  generalize w3.alloc (.cells (iv [d1, d3, d4]) 25) = W4 at *
  go_wp2_with fail
  go_ret
  exact ⟨rfl, HB4.out⟩

set_option maxRecDepth 100000 in
set_option maxHeartbeats 2000000 in
theorem sCount_any (a h : Option Addr) (ca ch : Nat) (ps : List L) (ts : List T) (n : Int) (w : World) (hp : LinesAt w a ps) (hts : TestsAt w h ts) (hm : ps.length ≤ 1000) (hm2 : ts.length ≤ 1000) (hml : ∀ t ∈ ts, t.inn.length ≤ 1000) :
    Calls Tryz.prog 20 #[.slice a ps.length ca, .slice h ts.length ch, .int .i64 n] w fun e w' => e = .returned (.tuple #[.int .i64 (cnR ps ts n), .int .i64 (skC ps ts n)]) ∧ Below w.heap.size w w' := by
  unfold cnR
  have H1 := Lib.hid (fun w h1 h2 => sValidateSearch_any a h ca ch ps ts n w h1 h2 hm hm2 hml)
  have HP := Lib.hid hp
  have HT := Lib.hid hts
  by_cases hz : skC ps ts n = 0
  · obtain ⟨v1, v2, v3, v4⟩ := skC_ok hz
    have h8 := (vp_ok v1).1
    have H2 := Lib.hid (fun w => sourceOf_any n w v3.1 v3.2)
    have H3 := Lib.hid (fun i w h1 h2 (hi : i < ps.length) => sfixes_any a h ca ch ps ts i n w h1 h2 v1 v2 hi v3.1 v3.2)
    have HC := Lib.hid (show ∀ k, cnT ps ts n (k + 1) = cnT ps ts n k + (fxL ps ts k n).length from fun _ => rfl)
    have HL := Lib.hid (cnT_le ps ts n)
    have HF := Lib.hid (fun k => fx_len9 ps ts k n)
    have HZ := Lib.hid (show cnT ps ts n 0 = 0 from rfl)
    rw [hz] at H1
    rw [if_pos hz, hz]
    generalize cnT ps ts n = cn at *
    generalize srcV n = v at *
    clear hz v1 v2 v3 v4 hp hts hml
    go_enter Tryz.func20, Tryz.ntmps20
    go_wp2_with fail
    refine (H1.out _ HP.out HT.out).mono ?_
    rintro e w1 ⟨rfl, hB⟩
    have HB1 := Lib.hid hB
    clear hB
    go_wp2_with fail
    refine (H2.out _).mono ?_
    rintro e w2 ⟨rfl, hB⟩
    have HB2 := Lib.hid (HB1.out.trans (hB.mono HB1.out.size))
    clear hB
    go_wp2_with fail
    go_loopw [11, 27] (fun s11 s27 wr => ∃ k : Nat, k ≤ ps.length ∧ s27 = .int .i64 (k : Int) ∧ s11 = .int .i64 ((cn k : Nat) : Int) ∧ Below w.heap.size w wr) (fun _ s27 _ => ps.length - (intOf s27).toNat)
    case atStart => exact ⟨0, Nat.zero_le _, rfl, by rw [HZ.out]; rfl, HB2.out⟩
    case round =>
      obtain ⟨k, hk, rfl, rfl, hB⟩ := hrel
      have HB := Lib.hid hB
      clear hB
      by_cases hlt : k < ps.length
      · have hlt1 : decide ((k : Int) < (ps.length : Int)) = true := decide_eq_true (by omega)
        have H5 := Lib.hid (fun w h1 h2 => H3.out k w h1 h2 hlt)
        have HN := Lib.hid (HC.out k)
        have hcl := HL.out k
        have hfl := HF.out k
        have hw : IntKind.i64.wrap (((cn k : Nat) : Int) + ((fxL ps ts k n).length : Int)) = ((cn k : Nat) : Int) + ((fxL ps ts k n).length : Int) := IntWalk.i64_in _ (by omega)
        generalize fxL ps ts k n = R at *
        go_wp2_with fail
        refine (H5.out _ (HP.out.below HB.out (Nat.le_refl _)) (HT.out.below HB.out (Nat.le_refl _))).mono ?_
        rintro e w3 ⟨aq, cq, rfl, hq, hB⟩
        have HB3 := Lib.hid (HB.out.trans (hB.mono HB.out.size))
        clear hB hq
        go_wp2_with fail
        go_roundw
        case rel => exact ⟨k + 1, by omega, by go_num, by rw [HN.out]; push_cast; rfl, HB3.out⟩
        case measure => simp [intOf]; omega
      · obtain rfl : k = ps.length := by omega
        have hlt1 : decide ((ps.length : Int) < (ps.length : Int)) = false := decide_eq_false (by omega)
        go_wp2_with fail
        go_ret2
        exact ⟨rfl, HB.out⟩
  · rw [if_neg hz]
    generalize skC ps ts n = q at *
    have hq1 : (q != 0) = true := by simpa using hz
    clear hz
    go_enter Tryz.func20, Tryz.ntmps20
    go_wp2_with fail
    refine (H1.out _ HP.out HT.out).mono ?_
    rintro e w1 ⟨rfl, hB⟩
    have HB1 := Lib.hid hB
    clear hB
    go_wp2_with fail
    go_ret2
    exact ⟨rfl, HB1.out⟩

set_option maxRecDepth 100000 in
set_option maxHeartbeats 4000000 in
theorem sPlaces_any (a h : Option Addr) (ca ch : Nat) (ps : List L) (ts : List T) (n : Int) (w : World) (hp : LinesAt w a ps) (hts : TestsAt w h ts) (hm : ps.length ≤ 1000) (hm2 : ts.length ≤ 1000) (hml : ∀ t ∈ ts, t.inn.length ≤ 1000) :
    Calls Tryz.prog 22 #[.slice a ps.length ca, .slice h ts.length ch, .int .i64 n] w (GivesIntsE (fpR ps ts n) (skC ps ts n) w) := by
  unfold fpR
  have H1 := Lib.hid (fun w h1 h2 => sValidateSearch_any a h ca ch ps ts n w h1 h2 hm hm2 hml)
  have HP := Lib.hid hp
  have HT := Lib.hid hts
  by_cases hz : skC ps ts n = 0
  · obtain ⟨v1, v2, v3, v4⟩ := skC_ok hz
    have h8 := (vp_ok v1).1
    have H2 := Lib.hid (fun w => sourceOf_any n w v3.1 v3.2)
    have H3 := Lib.hid (fun i w h1 h2 (hi : i < ps.length) => sfixes_any a h ca ch ps ts i n w h1 h2 v1 v2 hi v3.1 v3.2)
    have HG := Lib.hid (fun k (hk : k < ps.length) => hsL_get (ts := ts) (n := n) hk)
    have hhl := hsL_len ps ts n
    have hmk := mkBools ps.length h8
    rw [hz] at H1
    rw [if_pos hz, hz]
    generalize hsL ps ts n = hs at *
    have HHL := Lib.hid hhl
    have HPL := Lib.hid (fun w (hw : BoolsAt w w.heap.size 0 hs) => hw)
    generalize srcV n = v at *
    clear hz v1 v2 v3 v4 hp hts hml HPL hhl
    go_enter Tryz.func22, Tryz.ntmps22
    go_wp2_with fail
    refine (H1.out _ HP.out HT.out).mono ?_
    rintro e w1 ⟨rfl, hB⟩
    have HB1 := Lib.hid hB
    clear hB
    go_wp2_with fail
    refine (H2.out _).mono ?_
    rintro e w2 ⟨rfl, hB⟩
    have HB2 := Lib.hid (HB1.out.trans (hB.mono HB1.out.size))
    clear hB
    go_wp2_with fail
    go_loopw [30] (fun s30 wr => ∃ k : Nat, k ≤ ps.length ∧ s30 = .int .i64 (k : Int) ∧ wr.heap[w2.heap.size]? = some (.cells (bv (hs.take k ++ List.replicate (ps.length - k) false)) 4 (0, 0)) ∧ Below w2.heap.size w2 wr) (fun s30 _ => ps.length - (intOf s30).toNat)
    case atStart => exact ⟨0, Nat.zero_le _, rfl, hp_new rfl, (Below.refl _ _).alloc (Nat.le_refl _) _⟩
    case round =>
      obtain ⟨k, hk, rfl, hg, hB⟩ := hrel
      have HG2 := Lib.hid hg
      have HBr := Lib.hid hB
      have HB := Lib.hid (HB2.out.trans (hB.mono HB2.out.size))
      clear hB hg
      by_cases hlt : k < ps.length
      · have hlt1 : decide ((k : Int) < (ps.length : Int)) = true := decide_eq_true (by omega)
        have H5 := Lib.hid (fun w h1 h2 => H3.out k w h1 h2 hlt)
        have hge := HG.out k hlt
        generalize fxL ps ts k n = R at *
        obtain ⟨b, hb⟩ : ∃ b, decide (0 < R.length) = b := ⟨_, rfl⟩
        have hd : decide (0 < (R.length : Int)) = b := by rw [← hb]; simp
        rw [hb] at hge
        have HST := Lib.hid (set_to (z := false) hge HHL.out)
        have hbl : k < (hs.take k ++ List.replicate (ps.length - k) false).length := by rw [List.length_append, List.length_take, List.length_replicate, HHL.out]; omega
        generalize (hs.take k ++ List.replicate (ps.length - k) false) = bs at *
        have q1 : (0 : Int) ≤ (k : Int) := by omega
        have q2 : (k : Int) < (ps.length : Int) := by omega
        clear hge
        go_wp2_with fail
        refine (H5.out _ (HP.out.below HB.out (Nat.le_refl _)) (HT.out.below HB.out (Nat.le_refl _))).mono ?_
        rintro e w3 ⟨aq, cq, rfl, hq, hB⟩
        have HG3 := Lib.hid (hp_below HG2.out hB (hp_lt HG2.out))
        have HB3 := Lib.hid (HBr.out.trans (hB.mono HBr.out.size))
        have m1 := hp_cell HG3.out (bv_get bs k hbl)
        have m2 := hp_free HG3.out k
        clear hB hq
        go_wp2_with fail
        go_roundw
        case rel => exact ⟨k + 1, by omega, by go_num, by rw [← HST.out, ← bv_set]; exact hp_put HG3.out k _, HB3.out.setCell (p := ⟨w2.heap.size, k, none⟩) (Nat.le_refl _) _⟩
        case measure => simp [intOf]; omega
      · obtain rfl : k = ps.length := by omega
        have hlt1 : decide ((ps.length : Int) < (ps.length : Int)) = false := decide_eq_false (by omega)
        have hg := HG2.out
        rw [Nat.sub_self, List.replicate_zero, List.append_nil, List.take_of_length_le (by rw [HHL.out]; exact Nat.le_refl _)] at hg
        have HBA := Lib.hid (bools_at hg)
        have hlw := hp_lt hg
        have H6 := Lib.hid (fun cap => places_any w2.heap.size 0 cap hs wr HBA.out hlw (by rw [HHL.out]; omega))
        rw [HHL.out] at H6
        clear hg
        go_wp2_with fail
        refine (H6.out _).mono ?_
        rintro e w4 ⟨aq, cq, rfl, hq, hB⟩
        have HO := Lib.hid (own_mono hq HB.out.size)
        have HB4 := Lib.hid (HB.out.trans (hB.mono HB.out.size))
        clear hB hq
        go_wp2_with fail
        go_ret2
        exact ⟨_, _, rfl, HO.out, HB4.out⟩
  · rw [if_neg hz]
    generalize skC ps ts n = q at *
    have hq1 : (q != 0) = true := by simpa using hz
    clear hz
    go_enter Tryz.func22, Tryz.ntmps22
    go_wp2_with fail
    refine (H1.out _ HP.out HT.out).mono ?_
    rintro e w1 ⟨rfl, hB⟩
    have HB1 := Lib.hid hB
    clear hB
    go_wp2_with fail
    go_ret2
    exact givesIntsE_nil HB1.out

end Go.Proofs.YtjciojoeifekeaaGreat
