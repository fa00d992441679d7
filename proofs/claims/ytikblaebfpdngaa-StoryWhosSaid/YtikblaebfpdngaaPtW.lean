/- Several texts in one. -/
import Derived.Test.YtikblaebfpdngaaEdM
import Derived.Test.YtikblaebfpdngaaChkB
import Derived.Test.YtikblaebfpdngaaRSl
import Derived.Test.YtikblaebfpdngaaTells
/- places and Validate of patches: contracts. -/
set_option linter.unusedVariables false
set_option linter.unusedSimpArgs false
namespace Go.Proofs.Ytikblaebfpdngaa
open Go.RowKit Tinker

/-- The places of the first k edits, and zeros. -/
def plTo (xs : List E) (k : Nat) : List Int := pl (xs.take k) ++ List.replicate (xs.length - k) 0
theorem plTo_0 (xs : List E) : plTo xs 0 = List.replicate xs.length 0 := by simp [plTo, pl]
theorem plTo_all (xs : List E) : plTo xs xs.length = pl xs := by simp [plTo]
theorem plTo_len {xs : List E} {k : Nat} (h : k ≤ xs.length) : (plTo xs k).length = xs.length := by
  unfold plTo pl
  rw [List.length_append, List.length_map, List.length_take, List.length_replicate]
  omega
theorem plTo_step {xs : List E} {k : Nat} {e : E} (h : xs[k]? = some e) : (plTo xs k).set k e.at_ = plTo xs (k + 1) := by
  have hk : k < xs.length := (List.getElem?_eq_some_iff.1 h).1
  unfold plTo pl
  rw [List.take_add_one, h, List.map_append, List.set_append_right _ _ (by simp; omega), List.length_map, List.length_take, Nat.min_eq_left (by omega), Nat.sub_self]
  have : xs.length - k = (xs.length - (k + 1)) + 1 := by omega
  rw [this, List.replicate_succ, List.set_cons_zero, List.append_assoc]
  rfl

set_option maxRecDepth 100000 in
set_option maxHeartbeats 2000000 in
theorem pPlaces_any (a : Option Addr) (ca : Nat) (xs : List E) (w : World) (hx : EditsAt w a xs) (h4 : xs.length ≤ 4) :
    Calls Try.prog 89 #[.slice a xs.length ca] w fun e w' => e = .returned (.slice (some ⟨w.heap.size, 0, none⟩) xs.length xs.length) ∧ RowI w.heap.size (pl xs) w w' ∧ w.drawn ≤ w'.drawn := by
  have hmk := mkInts xs.length (by omega)
  go_enter Try.func89, Try.ntmps89
  go_wp2_with fail
  clear hmk
  have hR : RowI w.heap.size (plTo xs 0) w (w.alloc (.cells (iv (List.replicate xs.length 0)) 3)) := ⟨by rw [plTo_0]; exact hp_new rfl, (Below.refl _ _).alloc (Nat.le_refl _) _⟩
  have hd : w.drawn ≤ (w.alloc (.cells (iv (List.replicate xs.length 0)) 3)).drawn := Nat.le_refl _
  go_loopw [11] (fun s11 wr => ∃ k : Nat, k ≤ xs.length ∧ s11 = .int .i64 k ∧ RowI w.heap.size (plTo xs k) w wr ∧ w.drawn ≤ wr.drawn) (fun s11 _ => xs.length - (intOf s11).toNat)
  case atStart => exact ⟨0, by omega, rfl, hR, hd⟩
  case round =>
    clear hR hd
    obtain ⟨k, hk, rfl, hI, hd⟩ := hrel
    by_cases hlt : k < xs.length
    · obtain ⟨b, off, e, rfl, hlb, he, c0, c1, c2, c3, c4⟩ := (hx.below hI.below (Nat.le_refl _)).at_ hlt
      have hal : Below wr.heap.size wr (wr.alloc (.cells #[.int .i64 e.at_, .int .i64 e.ln.op, .int .i64 e.ln.to, .int .i64 e.ln.a, .int .i64 e.ln.b] 50)) := (Below.refl _ _).alloc (Nat.le_refl _) _
      have HI := hI.low hal
      have m1 := hp_cell HI.bm (iv_getN (plTo xs k) k (by rw [plTo_len hk]; exact hlt))
      have m2 := hp_free HI.bm k
      have HI2 := Lib.hid (HI.put (Nat.le_refl _) k e.at_)
      have HE := Lib.hid (plTo_step he)
      have HD := Lib.hid hd
      clear hx he hal HI hI hd
      go_wp2_with fail
      go_roundw
      case rel => exact ⟨k + 1, by omega, by go_num, by rw [← HE.out]; exact HI2.out, HD.out⟩
      case measure => simp [intOf]; omega
    · obtain rfl : k = xs.length := by omega
      rw [plTo_all] at hI
      have HI := Lib.hid hI
      clear hI
      go_wp2_with fail
      go_ret
      exact ⟨rfl, HI.out, hd⟩

end Go.Proofs.Ytikblaebfpdngaa

/- Validate of patches: contract. -/
set_option linter.unusedVariables false
set_option linter.unusedSimpArgs false
namespace Go.Proofs.Ytikblaebfpdngaa
open Go.RowKit Tinker

theorem vx_set {xs : List E} (h1 : xs.length ≤ 4) (h2 : isSetB (pl xs) = false) : vx xs = 1 := vx_1 h1 (by rw [h2]; rfl)
theorem vx_bad {xs : List E} (h1 : xs.length ≤ 4) (h2 : (xs.all fun e => btw e.at_ 0 7 && isLn e.ln) = false) : vx xs = 1 := vx_1 h1 (by rw [h2, Bool.and_false])
theorem vx_good {xs : List E} (h1 : xs.length ≤ 4) (h2 : isSetB (pl xs) = true) (h3 : (xs.all fun e => btw e.at_ 0 7 && isLn e.ln) = true) : vx xs = 0 := vx_0 h1 h2 (List.all_eq_true.1 h3)
theorem plLen (z : List E) : (pl z).length = z.length := by unfold pl; rw [List.length_map]

set_option maxRecDepth 100000 in
set_option maxHeartbeats 2000000 in
theorem pValidate_any (a : Option Addr) (ca : Nat) (xs : List E) (w : World) (hx : EditsAt w a xs) (hm : xs.length ≤ 1000) :
    Calls Try.prog 88 #[.slice a xs.length ca] w fun e w' => e = .returned (.int .i64 (vx xs)) ∧ Below w.heap.size w w' := by
  by_cases h4 : xs.length ≤ 4
  · have HP := Lib.hid (pPlaces_any a ca xs w hx h4)
    have HS := Lib.hid (fun b c w h => by have := kIsSet_any b c (pl xs) w h (by rw [plLen]; omega); rw [plLen] at this; exact this)
    cases hs : isSetB (pl xs)
    · have HE := Lib.hid (vx_set h4 hs)
      rw [hs] at HS
      clear hs
      go_enter Try.func88, Try.ntmps88
      go_wp2_with fail
      refine HP.out.mono ?_
      rintro e w1 ⟨rfl, hR, _⟩
      have HI := Lib.hid hR.ints
      have HB := Lib.hid hR.below
      clear hR
      go_wp2_with fail
      refine (HS.out _ _ _ HI.out).mono ?_
      rintro e w2 ⟨rfl, hB2⟩
      have HB2 := Lib.hid (HB.out.trans (hB2.mono HB.out.size))
      clear hB2
      go_wp2_with fail
      go_ret
      exact ⟨ret_int HE.out.symm, HB2.out⟩
    · have HSS := Lib.hid hs
      rw [hs] at HS
      clear hs
      go_enter Try.func88, Try.ntmps88
      go_wp2_with fail
      refine HP.out.mono ?_
      rintro e w1 ⟨rfl, hR, _⟩
      have HI := Lib.hid hR.ints
      have HB := Lib.hid hR.below
      clear hR
      go_wp2_with fail
      refine (HS.out _ _ _ HI.out).mono ?_
      rintro e w2 ⟨rfl, hB2⟩
      have HB2 := Lib.hid (HB.out.trans (hB2.mono HB.out.size))
      clear hB2 HI HB HP HS
      go_wp2_with fail
      go_loopw [14] (fun s14 wr => ∃ k : Nat, k ≤ xs.length ∧ s14 = .int .i64 k ∧ (xs.take k).all (fun e => btw e.at_ 0 7 && isLn e.ln) = true ∧ Below w.heap.size w wr) (fun s14 _ => xs.length - (intOf s14).toNat)
      case atStart => exact ⟨0, Nat.zero_le _, rfl, by simp, HB2.out⟩
      case round =>
        obtain ⟨k, hk, rfl, hall, hB⟩ := hrel
        have HA := Lib.hid hall
        have HBR := Lib.hid hB
        clear hall hB HB2
        by_cases hlt : k < xs.length
        · obtain ⟨b, off, e, rfl, hlb, he, c0, c1, c2, c3, c4⟩ := (hx.below HBR.out (Nat.le_refl _)).at_ hlt
          have HE := Lib.hid he
          have HBT := Lib.hid (fun w => isBetween_any e.at_ 0 7 w)
          have HVL := Lib.hid (fun w => validateLine_any e.ln w)
          have HBA := Lib.hid (HBR.out.alloc HBR.out.size (.cells #[.int .i64 e.at_, .int .i64 e.ln.op, .int .i64 e.ln.to, .int .i64 e.ln.a, .int .i64 e.ln.b] 50))
          unfold lv vl at HVL
          clear he hx
          cases hb : btw e.at_ 0 7
          · have HF := Lib.hid (show (btw e.at_ 0 7 && isLn e.ln) = false by rw [hb]; rfl)
            rw [hb] at HBT
            clear hb
            go_wp2_with fail
            refine (HBT.out _).mono ?_
            rintro ex w3 ⟨rfl, rfl⟩
            go_wp2_with fail
            go_ret
            exact ⟨ret_int (vx_bad h4 (all_not HE.out HF.out)).symm, HBA.out⟩
          · rw [hb] at HBT
            cases hl : isLn e.ln
            · have HF := Lib.hid (show (btw e.at_ 0 7 && isLn e.ln) = false by rw [hb, hl]; rfl)
              rw [hl] at HVL
              clear hb hl
              go_wp2_with fail
              refine (HBT.out _).mono ?_
              rintro ex w3 ⟨rfl, rfl⟩
              go_wp2_with fail
              refine (HVL.out _).mono ?_
              rintro ex w4 ⟨rfl, hB4⟩
              have HB4 := Lib.hid (HBA.out.trans (hB4.mono HBA.out.size))
              clear hB4
              go_wp2_with fail
              go_ret
              exact ⟨ret_int (vx_bad h4 (all_not HE.out HF.out)).symm, HB4.out⟩
            · have HF := Lib.hid (show (btw e.at_ 0 7 && isLn e.ln) = true by rw [hb, hl]; rfl)
              rw [hl] at HVL
              clear hb hl
              go_wp2_with fail
              refine (HBT.out _).mono ?_
              rintro ex w3 ⟨rfl, rfl⟩
              go_wp2_with fail
              refine (HVL.out _).mono ?_
              rintro ex w4 ⟨rfl, hB4⟩
              have HB4 := Lib.hid (HBA.out.trans (hB4.mono HBA.out.size))
              clear hB4
              go_wp2_with fail
              go_roundw
              case rel => exact ⟨k + 1, by omega, by go_num, all_snoc HA.out HE.out HF.out, HB4.out⟩
              case measure => simp [intOf]; omega
        · have HW := Lib.hid (all_whole HA.out hlt)
          go_wp2_with fail
          go_ret
          exact ⟨ret_int (vx_good h4 HSS.out HW.out).symm, HBR.out⟩
  · have HE := Lib.hid (vx_large (show 4 < xs.length by omega))
    have h5 : 4 < xs.length := by omega
    clear h4 hx
    go_enter Try.func88, Try.ntmps88
    go_wp2_with fail
    go_ret
    exact ⟨ret_int HE.out.symm, Below.refl _ _⟩

end Go.Proofs.Ytikblaebfpdngaa

/- The errors of programs, patches and tests: contract. -/
set_option linter.unusedVariables false
set_option linter.unusedSimpArgs false
namespace Go.Proofs.Ytikblaebfpdngaa
open Go.RowKit Tinker

theorem feL_three (a b c : Int) : feL [a, b, c] = fe (fe a b) c := by
  simp only [feL, fe]
  by_cases h1 : a = 0
  · by_cases h2 : b = 0
    · by_cases h3 : c = 0 <;> simp [h1, h2, h3]
    · simp [h1, h2]
  · simp [h1]

set_option maxRecDepth 100000 in
set_option maxHeartbeats 1000000 in
theorem pvalidate_any (a g h : Option Addr) (ca cg ch : Nat) (ps : List L) (xs : List E) (ts : List T) (w : World) (hp : LinesAt w a ps) (hx : EditsAt w g xs) (hts : TestsAt w h ts) (hm : xs.length ≤ 1000) (hm2 : ts.length ≤ 1000) (hml : ∀ t ∈ ts, t.inn.length ≤ 1000) (hpl : ps.length ≤ 1000) :
    Calls Try.prog 84 #[.slice a ps.length ca, .slice g xs.length cg, .slice h ts.length ch] w fun e w' => e = .returned (.int .i64 (vpx ps xs (vts ts))) ∧ Below w.heap.size w w' := by
  have H1 := Lib.hid (fun w hp => validate_any a ca ps w hp)
  have H2 := Lib.hid (fun w hx => pValidate_any g cg xs w hx hm)
  have H3 := Lib.hid (fun w hts => validateTests_C h ch ts w hts hm2 hml)
  have HP := Lib.hid (fun (hz : feL [vp ps, vx xs, vts ts] = 0) w hx => pPlaces_any g cg xs w hx (by rw [feL_three] at hz; exact (vx_ok (fe_0 (fe_0 hz).1).2).1))
  have HV0 := Lib.hid (show feL [vp ps, vx xs, vts ts] = 0 → vpx ps xs (vts ts) = if allBtw (pl xs) 0 ((ps.length : Int) - 1) then 0 else 4 from fun hz => by rw [feL_three] at hz; unfold vpx; rw [if_pos hz])
  have HV1 := Lib.hid (show feL [vp ps, vx xs, vts ts] ≠ 0 → vpx ps xs (vts ts) = feL [vp ps, vx xs, vts ts] from fun hz => by rw [feL_three] at hz ⊢; unfold vpx; rw [if_neg hz])
  have HA := Lib.hid (fun b c w h => by have := areBetween_any b c (pl xs) 0 ((ps.length : Int) - 1) w h (by rw [plLen]; omega); rw [plLen] at this; exact this)
  generalize vpx ps xs (vts ts) = r at HV0 HV1 ⊢
  generalize allBtw (pl xs) 0 ((ps.length : Int) - 1) = A at HA HV0
  generalize vp ps = c1 at H1 HP HV0 HV1
  generalize vx xs = c2 at H2 HP HV0 HV1
  generalize vts ts = c3 at H3 HP HV0 HV1
  go_enter Try.func84, Try.ntmps84
  go_wp2_with fail
  refine (H1.out _ hp).mono ?_
  rintro e w1 ⟨rfl, hB1⟩
  have HB1 := Lib.hid hB1
  clear hB1
  go_wp2_with fail
  refine (H2.out _ (hx.below HB1.out (Nat.le_refl _))).mono ?_
  rintro e w2 ⟨rfl, hB2⟩
  have HB2 := Lib.hid (HB1.out.trans (hB2.mono HB1.out.size))
  clear hB2
  go_wp2_with fail
  refine (H3.out _ (hts.below HB2.out (Nat.le_refl _))).mono ?_
  rintro e w3 ⟨rfl, hB3⟩
  have HB3 := Lib.hid (HB2.out.trans (hB3.mono HB2.out.size))
  clear hB3
  go_wp2_with fail
  refine (firstError3_at _ _ c1 c2 c3 (ints_three _ _ _ _ _)).mono ?_
  rintro e w4 ⟨rfl, hw4⟩
  have hB4 := HB3.out.alloc HB3.out.size (.cells #[.int .i64 c1, .int .i64 c2, .int .i64 c3] 26)
  rw [hw4] at hB4
  have HB4 := Lib.hid hB4
  clear hB4 hw4
  generalize feL [c1, c2, c3] = c at HP HV0 HV1 ⊢
  clear H1 H2 H3
  by_cases hz : c = 0
  · have HP2 := Lib.hid (HP.out hz)
    have HE := Lib.hid (HV0.out hz)
    subst hz
    clear HV0 HV1 HP
    go_wp2_with fail
    refine (HP2.out _ (hx.below HB4.out (Nat.le_refl _))).mono ?_
    rintro e w5 ⟨rfl, hR, _⟩
    have HI := Lib.hid hR.ints
    have HB5 := Lib.hid (HB4.out.trans (hR.below.mono HB4.out.size))
    clear hR
    go_wp2_with fail
    refine (HA.out _ _ _ HI.out).mono ?_
    rintro e w6 ⟨rfl, rfl⟩
    cases A
    · go_wp2_with fail
      go_ret
      exact ⟨ret_int HE.out.symm, HB5.out⟩
    · go_wp2_with fail
      go_ret
      exact ⟨ret_int HE.out.symm, HB5.out⟩
  · have HE := Lib.hid (HV1.out hz)
    have hz1 : (c != 0) = true := by simpa using hz
    have hz2 : (c == 0) = false := by simpa using hz
    clear hz HV0 HV1 HP
    go_wp2_with fail
    go_ret
    exact ⟨ret_int HE.out.symm, HB4.out⟩

end Go.Proofs.Ytikblaebfpdngaa
