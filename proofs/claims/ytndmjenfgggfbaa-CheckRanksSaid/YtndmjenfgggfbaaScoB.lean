/- Scores of both; equal fractions: contracts. -/
import Derived.Test.YtndmjenfgggfbaaScoA
set_option linter.unusedVariables false
set_option linter.unusedSimpArgs false
namespace Go.Proofs.Ytndmjenfgggfbaa
open Go.RowKit Tinker

/-- A slice's address leads to these fractions. -/
def QAt (w : World) (g : Option Addr) (qs : List (Int × Int)) : Prop :=
  qs = [] ∨ ∃ b off, g = some ⟨b, off, none⟩ ∧ b < w.heap.size ∧ ∀ j q, qs[j]? = some q → w.cell? ⟨b, off + j * 2, none⟩ = some (.int .i64 q.1) ∧ w.cell? ⟨b, off + j * 2 + 1, none⟩ = some (.int .i64 q.2)
theorem QAt.below {w w' : World} {B : Nat} {g : Option Addr} {qs : List (Int × Int)} (h : QAt w g qs) (hb : Below B w w') (hB : w.heap.size ≤ B) : QAt w' g qs := by
  rcases h with h | ⟨b, off, e, hlt, hc⟩
  · exact .inl h
  · refine .inr ⟨b, off, e, Nat.lt_of_lt_of_le hlt hb.size, fun j q hj => ?_⟩
    obtain ⟨h0, h1⟩ := hc j q hj
    exact ⟨(hb.cell (p := ⟨b, _, none⟩) (by show b < B; omega)).trans h0, (hb.cell (p := ⟨b, _, none⟩) (by show b < B; omega)).trans h1⟩
theorem QAt.at_ {w : World} {g : Option Addr} {qs : List (Int × Int)} (h : QAt w g qs) {k : Nat} (hk : k < qs.length) : ∃ b off q, g = some ⟨b, off, none⟩ ∧ b < w.heap.size ∧ qs[k]? = some q ∧ w.cell? ⟨b, off + k * 2, none⟩ = some (.int .i64 q.1) ∧ w.cell? ⟨b, off + k * 2 + 1, none⟩ = some (.int .i64 q.2) := by
  obtain ⟨b, off, e, hlb, hc⟩ := h.resolve_left (by rintro rfl; simp at hk)
  obtain ⟨q, hq⟩ := get_of_lt hk
  obtain ⟨h0, h1⟩ := hc k q hq
  exact ⟨b, off, q, e, hlb, hq, h0, h1⟩
theorem qAt_blk {W : World} {Q : Nat} {qs : List (Int × Int)} (h : W.heap[Q]? = some (.cells (qv qs) 49 (0, 0))) : QAt W (some ⟨Q, 0, none⟩) qs :=
  .inr ⟨Q, 0, rfl, hp_lt h, fun j q hj => by
    obtain ⟨g0, g1⟩ := qv_get hj
    rw [Nat.zero_add]
    exact ⟨hp_cell h g0, hp_cell h g1⟩⟩
theorem qAt_own {w : World} {base n c : Nat} {e : TypeId} {a : Option Addr} {qs : List (Int × Int)} (h : w.ownsRow base e 2 (.slice a n c) n (qc qs)) : QAt w a qs := by
  rcases Nat.eq_zero_or_pos n with h0 | h0
  · have := h.1
    rw [qc_length] at this
    exact .inl (List.eq_nil_of_length_eq_zero (by omega))
  · obtain ⟨g, rfl⟩ := own_form h h0
    refine .inr ⟨g, 0, rfl, own_lt h, fun j q hj => ?_⟩
    obtain ⟨g0, g1⟩ := qc_get hj
    rw [Nat.zero_add]
    exact ⟨own_cell h g0, own_cell h g1⟩
/-- Fractions in memory, and a code. -/
def GivesQE (qs : List (Int × Int)) (c : Int) (w : World) (e : Ending) (w' : World) : Prop :=
  ∃ a cap, e = .returned (.tuple #[.slice a qs.length cap, .int .i64 c]) ∧ QAt w' a qs ∧ Below w.heap.size w w'
theorem givesQE_nil {c : Int} {w w' : World} (hB : Below w.heap.size w w') : GivesQE [] c w (.returned (.tuple #[.slice none 0 0, .int .i64 c])) w' := ⟨none, 0, rfl, .inl rfl, hB⟩

/-- What Scores answers. -/
def scA (ps : List L) (ts : List T) : List (Int × Int) := if vpt ps ts = 0 then scL ps ts else []
theorem scA_ok {ps : List L} {ts : List T} (h : vpt ps ts = 0) : scA ps ts = scL ps ts := by unfold scA; rw [if_pos h]
theorem scA_no {ps : List L} {ts : List T} (h : vpt ps ts ≠ 0) : scA ps ts = [] := by unfold scA; rw [if_neg h]

set_option maxRecDepth 100000 in
set_option maxHeartbeats 1000000 in
theorem scores_any (a g : Option Addr) (ca cap : Nat) (ps : List L) (ts : List T) (w : World) (hp : LinesAt w a ps) (hts : TestsAt w g ts) (hm : ts.length ≤ 1000) (hml : ∀ t ∈ ts, t.inn.length ≤ 1000) :
    Calls Try.prog 35 #[.slice a ps.length ca, .slice g ts.length cap] w (GivesQE (scA ps ts) (vpt ps ts) w) := by
  by_cases hz : vpt ps ts = 0
  · refine (scores_ok a g ca cap ps ts w hp hts hz).mono ?_
    rintro e w' ⟨Q, rfl, hq, hB⟩
    rw [scA_ok hz, hz]
    exact ⟨some ⟨Q, 0, none⟩, ps.length, by rw [scL_length], qAt_blk hq, hB⟩
  · have HV := Lib.hid (fun w hp hts => validateTestsP_any a g ca cap ps ts w hp hts hm hml)
    rw [scA_no hz]
    generalize vpt ps ts = c at HV hz
    have hz1 : (c != 0) = true := by simpa using hz
    have hz2 : (c == 0) = false := by simpa using hz
    clear hz
    go_enter Try.func35, Try.ntmps35
    go_wp2_with fail
    refine (HV.out _ hp hts).mono ?_
    rintro e w1 ⟨rfl, hB⟩
    go_wp2_with fail
    go_ret2
    exact givesQE_nil hB

set_option maxRecDepth 100000 in
set_option maxHeartbeats 1000000 in
theorem sameRats_eq (n : Nat) (a b : Option Addr) (ca cb : Nat) (qs : List (Int × Int)) (w : World) (hn : qs.length = n) (h1 : QAt w a qs) (h2 : QAt w b qs) (hm : n ≤ 1000) :
    Calls Try.prog 37 #[.slice a n ca, .slice b n cb] w fun e w' => e = .returned (.bool true) ∧ Below w.heap.size w w' := by
  have hnn : ((n : Int) != (n : Int)) = false := by simp
  have HN := Lib.hid hn
  clear hn
  go_enter Try.func37, Try.ntmps37
  go_wp2_with fail
  go_loopw [5] (fun s5 wr => ∃ k : Nat, k ≤ n ∧ s5 = .int .i64 k ∧ Below w.heap.size w wr) (fun s5 _ => n - (intOf s5).toNat)
  case atStart => exact ⟨0, Nat.zero_le _, rfl, Below.refl _ _⟩
  case round =>
    obtain ⟨k, hk, rfl, hB⟩ := hrel
    by_cases hlt : k < n
    · obtain ⟨b1, o1, q, rfl, hb1, hq, x0, x1⟩ := (h1.below hB (Nat.le_refl _)).at_ (k := k) (by rw [HN.out]; exact hlt)
      obtain ⟨b2, o2, q2, rfl, hb2, hq2, y0, y1⟩ := (h2.below hB (Nat.le_refl _)).at_ (k := k) (by rw [HN.out]; exact hlt)
      obtain rfl : q2 = q := by rw [hq] at hq2; injection hq2 with e; exact e.symm
      have HB := Lib.hid hB
      have e1 : (q2.1 != q2.1) = false := by simp
      have e2 : (q2.2 != q2.2) = false := by simp
      clear hq hq2 hB h1 h2
      go_wp2_with fail
      go_quiet (fail)
      go_wp2_with fail
      go_roundw
      case rel => exact ⟨k + 1, by omega, by go_num, HB.out.trans ⟨rfl, rfl, rfl, Nat.le_refl _, fun _ _ => rfl⟩⟩
      case measure => simp [intOf]; omega
    · obtain rfl : k = n := by omega
      go_wp2_with fail
      go_ret
      exact ⟨rfl, hB⟩

theorem info_ratF : (Try.prog.info? 49).map (fun i => (i.zero, i.size, i.bytes)) = some (some (.agg #[.int .i64 0, .int .i64 0]), 2, 16) := by kernel_rfl
theorem qc_append : ∀ (qs : List (Int × Int)) (q : Int × Int), qc (qs ++ [q]) = qc qs ++ [.int .i64 q.1, .int .i64 q.2]
  | [], q => rfl
  | x :: r, q => by rw [List.cons_append, qc, qc, qc_append r q]; rfl

set_option maxRecDepth 100000 in
set_option maxHeartbeats 4000000 in
theorem rScores_any (a g : Option Addr) (ca cap : Nat) (ps : List L) (ts : List T) (w : World) (hp : LinesAt w a ps) (hts : TestsAt w g ts) :
    Calls Try.prog 36 #[.slice a ps.length ca, .slice g ts.length cap] w (GivesQE (scA ps ts) (vpt ps ts) w) := by
  obtain ⟨j0, hj, jz0, jz1, jz2⟩ := info_parts info_ratF
  have HV := Lib.hid (fun w hp hts => rTable_any a g ca cap ps ts w hp hts)
  by_cases hz : vpt ps ts = 0
  · obtain ⟨h1, h2⟩ := vpt_ok hz
    obtain ⟨t8, hT⟩ := vts_ok h2
    have h8 := (vp_ok h1).1
    have HF := Lib.hid (fun w hp hts => rFailing_any a g ca cap ps ts w hp hts)
    rw [scA_ok hz, hz]
    rw [hz, tabL_ok hz] at HV
    rw [hz, pL_ok hz] at HF
    have HFL := Lib.hid (show (ts.map (fun t => rowL ps t.inn)).length = ts.length by simp)
    have HGT := Lib.hid (show ∀ (k : Nat) (t : T), ts[k]? = some t → (ts.map (fun t => rowL ps t.inn))[k]? = some (rowL ps t.inn) from fun k t h => by rw [List.getElem?_map, h]; rfl)
    have HBL := Lib.hid (show (plc (ts.map fun t => pas ps t == false)).length = fT ps ts ts.length by unfold fT plc; rw [List.length_map])
    have HHB := Lib.hid (show ∀ (k : Nat) (t : T), ts[k]? = some t → hasB (plc (ts.map fun t => pas ps t == false)) (k : Int) = (pas ps t == false) from fun k t h => by
      rw [hasB_plc _ (by rw [List.length_map]; exact (List.getElem?_eq_some_iff.1 h).1), List.getD_eq_getElem?_getD, List.getElem?_map, h]; rfl)
    have hf8 := fT_le ps ts ts.length
    have hsl := scL_length ps ts
    have HSG := Lib.hid (fun i (hi : i < ps.length) => scL_get (ts := ts) hi)
    generalize scL ps ts = S at hsl HSG
    generalize plc (ts.map fun t => pas ps t == false) = bad at HF HBL HHB
    generalize ts.map (fun t => rowL ps t.inn) = F at HV HFL HGT
    generalize hft : fT ps ts ts.length = f at HBL hf8
    have HFT := Lib.hid hft
    have HSL := Lib.hid hsl
    have bad8 : bad.length ≤ 8 := by rw [HBL.out]; omega
    clear hz hft hsl h1 h2
    go_enter Try.func36, Try.ntmps36
    go_wp2_with fail
    refine (HV.out _ hp hts).mono ?_
    rintro e w1 ⟨a1, c1, rfl, hr, hB⟩
    rw [HFL.out]
    have HR := Lib.hid hr
    clear hr
    go_wp2_with fail
    refine (HF.out _ (hp.below hB (Nat.le_refl _)) (hts.below hB (Nat.le_refl _))).mono ?_
    rintro e w2 ⟨a2, c2, rfl, hbd, hB2⟩
    rw [HBL.out]
    have HR2 := Lib.hid (HR.out.below hB2 (Nat.le_refl _))
    have HBD := Lib.hid hbd
    have hBB := hB.trans (hB2.mono hB.size)
    clear hbd HR hB hB2
    go_wp2_with fail
    go_loopw [10, 11] (fun s10 s11 wr => ∃ k : Nat, k ≤ ps.length ∧ s11 = .int .i64 k ∧ wr.ownsRow w2.heap.size 49 2 s10 k (qc (S.take k)) ∧ Below w2.heap.size w2 wr) (fun _ s11 _ => ps.length - (intOf s11).toNat)
    case atStart => exact ⟨0, Nat.zero_le _, rfl, World.ownsRow_nil _ _ _ _, Below.refl _ _⟩
    case round =>
      obtain ⟨k, hk, rfl, hown, hB1⟩ := hrel
      obtain ⟨wo, rfl⟩ : ∃ wo : World, wo = wr := ⟨_, rfl⟩
      by_cases hlt : k < ps.length
      · have HX := Lib.hid (HSG.out k hlt)
        have HRR := Lib.hid (HR2.out.below hB1 (Nat.le_refl _))
        have HBD2 := Lib.hid (HBD.out.below hB1 (Nat.le_refl _))
        have HO := Lib.hid hown
        have HB1 := Lib.hid hB1
        clear hown hB1
        go_wp2_with fail
        go_loop [12, 13, 14] (fun s12 s13 s14 => ∃ q : Nat, q ≤ ts.length ∧ s14 = .int .i64 q ∧ s12 = .int .i64 ((nT false ps ts k q : Nat) : Int) ∧ s13 = .int .i64 ((f + nT true ps ts k q : Nat) : Int)) (fun _ _ s14 => ts.length - (intOf s14).toNat)
        case atStart => exact ⟨0, Nat.zero_le _, rfl, rfl, rfl⟩
        case round =>
          obtain ⟨q, hq, rfl, rfl, rfl⟩ := hrel
          by_cases hlt2 : q < ts.length
          · obtain ⟨t, ht⟩ := get_of_lt hlt2
            obtain ⟨fb, fo, zs, az, cz, rfl, hfb, hzs, y0, hi'⟩ := HRR.out.at_ (k := q) (by rw [HFL.out]; exact hlt2)
            obtain rfl : zs = rowL ps t.inn := by
              have := HGT.out q t ht
              rw [this] at hzs; injection hzs with e; exact e.symm
            have hrl := rowL_length ps t.inn
            obtain ⟨zb, zo, x, rfl, hzb, hx, z0⟩ := hi'.at_ (show k < (rowL ps t.inn).length by omega)
            have hkz : (k : Int) < ((rowL ps t.inn).length : Int) := by omega
            have hxd : (rowL ps t.inn).getD k 0 = x := getD_of_get hx
            have n1 := nT_le false ps ts k q
            have n2 := nT_le true ps ts k q
            have HH := Lib.hid (fun w hz => rHas_any a2 c2 bad (q : Int) w hz (by omega))
            have hhb := HHB.out q t ht
            rw [HBL.out, hhb] at HH
            have NY := Lib.hid (show x ≠ 0 → ∀ b, pas ps t = b → nT b ps ts k (q + 1) = nT b ps ts k q + 1 from fun h b hb => nT_yes ht hb (by rw [hxd]; exact h))
            have NN := Lib.hid (show ∀ b, (x = 0 ∨ pas ps t ≠ b) → nT b ps ts k (q + 1) = nT b ps ts k q from fun b h => nT_no ht (fun y => by
              rcases h with h | h
              · exact y.2 (by rw [hxd]; exact h)
              · exact h y.1))
            clear ht hzs hi' hx hxd hhb hrl
            by_cases hx0 : x = 0
            · subst hx0
              have e1 := NN.out false (.inl rfl)
              have e2 := NN.out true (.inl rfl)
              have E1 := Lib.hid e1
              have E2 := Lib.hid e2
              clear e1 e2
              go_wp2_with fail
              go_round
              case rel => exact ⟨q + 1, by omega, by go_num, by rw [E1.out], by rw [E2.out] <;> exact congrArg (Value.int .i64) (by omega)⟩
              case measure => simp [intOf]; omega
            · have hx1 : (x == 0) = false := by simpa using hx0
              have hx2 : (x != 0) = true := by simpa using hx0
              cases hpv : pas ps t
              · have E1 := Lib.hid (NY.out hx0 false hpv)
                have E2 := Lib.hid (NN.out true (.inr (by rw [hpv]; simp)))
                rw [hpv] at HH
                clear hpv NY NN
                go_wp2_with fail
                refine (HH.out _ HBD2.out).mono ?_
                rintro e w' ⟨rfl, rfl⟩
                go_wp2_with fail
                go_round
                case rel => exact ⟨q + 1, by omega, by go_num, by rw [E1.out]; go_num, by rw [E2.out] <;> exact congrArg (Value.int .i64) (by omega)⟩
                case measure => simp [intOf]; omega
              · have E1 := Lib.hid (NN.out false (.inr (by rw [hpv]; simp)))
                have E2 := Lib.hid (NY.out hx0 true hpv)
                rw [hpv] at HH
                clear hpv NY NN
                go_wp2_with fail
                refine (HH.out _ HBD2.out).mono ?_
                rintro e w' ⟨rfl, rfl⟩
                go_wp2_with fail
                go_round
                case rel => exact ⟨q + 1, by omega, by go_num, by rw [E1.out], by rw [E2.out]; exact congrArg (Value.int .i64) (by omega)⟩
                case measure => simp [intOf]; omega
          · obtain rfl : q = ts.length := by omega
            have HSQ := Lib.hid (scQ_ref (ts := ts) hlt)
            have hN := nT_le false ps ts k ts.length
            have hD := nT_le true ps ts k ts.length
            have HN := Lib.hid (show rN ps ts k = if f = 0 then 0 else nT false ps ts k ts.length by unfold rN; rw [HFT.out])
            have HD := Lib.hid (show rD ps ts k = if f = 0 then 1 else f + nT true ps ts k ts.length by unfold rD; rw [HFT.out])
            have hDp := rD_pos ps ts k
            have hN8 : rN ps ts k ≤ 1000 := by rw [HN.out]; split <;> omega
            have hD8 : rD ps ts k ≤ 1000 := by rw [HD.out]; split <;> omega
            generalize nT false ps ts k ts.length = N0 at HN hN
            generalize nT true ps ts k ts.length = D0 at HD hD
            rw [HSQ.out] at HX
            by_cases hf0 : f = 0
            · rw [HN.out, HD.out, if_pos hf0, if_pos hf0] at HX
              have HRA := Lib.hid (fun w => show Calls Try.prog 77 #[.int .i64 0, .int .i64 1] w (fun e w' => e = .returned (.agg #[.int .i64 (fracA 0 1), .int .i64 (fracB 0 1)]) ∧ Below w.heap.size w w') from ratio_any 0 1 w (by omega) (by omega) (by omega))
              generalize fracA 0 1 = A at HRA HX
              generalize fracB 0 1 = B at HRA HX
              subst hf0
              clear HSQ HN HD hN hD hDp hN8 hD8
              go_wp2_with fail
              refine (HRA.out _).mono ?_
              rintro e w5 ⟨rfl, hB5⟩
              have hB6 := HB1.out.trans (hB5.mono HB1.out.size)
              have hown := own_below HO.out hB5 (Nat.le_refl _)
              clear HO HRA hB5
              go_wp2_with (at_builtin; refine wpList_append_own _ rfl (.tmp 62) (.tmp 66) 44 rfl w2.heap.size 49 j0 (.agg #[.int .i64 0, .int .i64 0]) 2 16 Try.underlying44 hj jz0 jz1 jz2 rfl (by decide) _ _ _ rfl (hown.alloc _) ⟨w5.heap.size, 0, none⟩ 1 1 [.int .i64 A, .int .i64 B] rfl rfl ?c1 ?c2 ?c3 ?c4 ?c5 ?_)
              case c1 => exact cell_two_new _ _ _ _
              case c2 => simp [Value.oneCell']
              case c3 => unfold maxLen; omega
              case c4 => omega
              case c5 => have := hB6.size; simp; omega
              intro v' w6 hown' hgrow _
              have hB7 := Lib.hid ((hB6.alloc hB6.size _).grown hgrow (by have := hB6.size; simp; omega) (own_base hown))
              have e : qc (S.take k) ++ [.int .i64 A, .int .i64 B] = qc (S.take (k + 1)) := by rw [List.take_add_one, HX.out]; exact (qc_append _ (A, B)).symm
              rw [e] at hown'
              have HO := Lib.hid hown'
              clear hown hown' hgrow e
              go_wp2_with fail
              go_roundw
              case rel => exact ⟨k + 1, by omega, by go_num, HO.out, hB7.out⟩
              case measure => simp [intOf]; omega
            · rw [HN.out, HD.out, if_neg hf0, if_neg hf0] at HX
              have hra := fun w => ratio_any N0 (f + D0) w (by omega) (by omega) (by omega)
              rw [Int.natCast_add] at hra
              have HRA := Lib.hid hra
              generalize fracA N0 (f + D0) = A at HRA HX
              generalize fracB N0 (f + D0) = B at HRA HX
              have hf1 : ((f : Int) == 0) = false := by simp; omega
              clear hf0 hra
              clear HSQ HN HD hN hD hDp hN8 hD8
              go_wp2_with fail
              refine (HRA.out _).mono ?_
              rintro e w5 ⟨rfl, hB5⟩
              have hB6 := HB1.out.trans (hB5.mono HB1.out.size)
              have hown := own_below HO.out hB5 (Nat.le_refl _)
              clear HO HRA hB5
              go_wp2_with (at_builtin; refine wpList_append_own _ rfl (.tmp 62) (.tmp 66) 44 rfl w2.heap.size 49 j0 (.agg #[.int .i64 0, .int .i64 0]) 2 16 Try.underlying44 hj jz0 jz1 jz2 rfl (by decide) _ _ _ rfl (hown.alloc _) ⟨w5.heap.size, 0, none⟩ 1 1 [.int .i64 A, .int .i64 B] rfl rfl ?c1 ?c2 ?c3 ?c4 ?c5 ?_)
              case c1 => exact cell_two_new _ _ _ _
              case c2 => simp [Value.oneCell']
              case c3 => unfold maxLen; omega
              case c4 => omega
              case c5 => have := hB6.size; simp; omega
              intro v' w6 hown' hgrow _
              have hB7 := Lib.hid ((hB6.alloc hB6.size _).grown hgrow (by have := hB6.size; simp; omega) (own_base hown))
              have e : qc (S.take k) ++ [.int .i64 A, .int .i64 B] = qc (S.take (k + 1)) := by rw [List.take_add_one, HX.out]; exact (qc_append _ (A, B)).symm
              rw [e] at hown'
              have HO := Lib.hid hown'
              clear hown hown' hgrow e
              go_wp2_with fail
              go_roundw
              case rel => exact ⟨k + 1, by omega, by go_num, HO.out, hB7.out⟩
              case measure => simp [intOf]; omega
      · obtain rfl : k = ps.length := by omega
        rw [List.take_of_length_le (by rw [HSL.out]; exact Nat.le_refl _)] at hown
        obtain ⟨a3, c3, rfl⟩ := own_slice hown
        have HO := Lib.hid hown
        clear hown
        go_wp2_with fail
        go_ret2
        exact ⟨a3, c3, by rw [HSL.out] <;> rfl, qAt_own HO.out, hBB.trans (hB1.mono hBB.size)⟩
  · rw [scA_no hz]
    rw [tabL_no hz] at HV
    generalize vpt ps ts = c at HV hz
    have hz1 : (c != 0) = true := by simpa using hz
    have hz2 : (c == 0) = false := by simpa using hz
    clear hz
    go_enter Try.func36, Try.ntmps36
    go_wp2_with fail
    refine (HV.out _ hp hts).mono ?_
    rintro e w1 ⟨a1, c1, rfl, hr, hB⟩
    go_wp2_with fail
    go_ret2
    exact givesQE_nil hB

end Go.Proofs.Ytndmjenfgggfbaa
