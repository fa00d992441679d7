/- validateNames, IsOrder, Move of both: contracts. -/
import Derived.Test.YtmideaancmpafacRSl
import Derived.Test.YtmideaancmpafacPlain
import Derived.Test.YtmideaancmpafacIndB
set_option linter.unusedVariables false
set_option linter.unusedSimpArgs false
namespace Go.Proofs.Ytmideaancmpafac
open Go.RowKit Tinker

def nmC (nm : List Int) : Int := if isOrd nm = true then 0 else 1
theorem isOrd_short {nm : List Int} (h : nm.length ≠ 4) : isOrd nm = false := by unfold isOrd; simp [h]
theorem isOrd_bad {nm : List Int} {k : Nat} (hk : k < 4) (h : okAt nm k = false) : isOrd nm = false := by
  rw [Bool.eq_false_iff]; intro h2
  rw [isOrd_ok h2 hk] at h; cases h
theorem isOrd_good {nm : List Int} (h : nm.length = 4) (h2 : (List.range 4).all (okAt nm) = true) : isOrd nm = true := by unfold isOrd; rw [h2]; simp [h]
theorem range_all_succ {f : Nat → Bool} {k : Nat} (h : (List.range k).all f = true) (hf : f k = true) : (List.range (k + 1)).all f = true := by
  rw [List.range_succ, List.all_append, h]; simp [hf]
theorem okAt_reg {nm : List Int} {k : Nat} {x : Int} (hx : nm[k]? = some x) (h : isReg x = false) : okAt nm k = false := by unfold okAt; rw [getD_of_get hx, h]; rfl
theorem okAt_seen {nm : List Int} {k : Nat} {x : Int} {b : Bool} (hx : nm[k]? = some x) (h : isReg x = true) (hb : (seenAt nm k).getD x.toNat false = b) : okAt nm k = !b := by unfold okAt; rw [getD_of_get hx, h, hb]; rfl
theorem seenAt_next {nm : List Int} {k : Nat} {x : Int} (hx : nm[k]? = some x) : seenAt nm (k + 1) = (seenAt nm k).set x.toNat true := by rw [seenAt, getD_of_get hx]

/-- Which registers are named so far: block H. -/
structure SnI (H : Nat) (t : TypeId) (nm : List Int) (k : Nat) (w W : World) : Prop where
  bh : W.heap[H]? = some (.cells (bv (seenAt nm k)) t (0, 0))
  below : Below w.heap.size w W
theorem SnI.put {H : Nat} {t : TypeId} {nm : List Int} {k : Nat} {w W : World} (h : SnI H t nm k w W) (hH : w.heap.size ≤ H) {x : Int} (hx : nm[k]? = some x) : SnI H t nm (k + 1) w (W.setCell ⟨H, x.toNat, none⟩ (.bool true)) :=
  ⟨by rw [seenAt_next hx, ← bv_set]; exact hp_put h.bh _ _, h.below.setCell (p := ⟨H, _, none⟩) hH _⟩

set_option maxRecDepth 100000 in
set_option maxHeartbeats 1000000 in
theorem validateNames_any (a : Option Addr) (cap : Nat) (nm : List Int) (w : World) (hz : IntsAt w a nm) (hm : nm.length ≤ 1000) :
    Calls Try.prog 55 #[.slice a nm.length cap] w fun e w' => e = .returned (.int .i64 (nmC nm)) ∧ Below w.heap.size w w' := by
  by_cases h4 : nm.length = 4
  · have H4 := Lib.hid h4
    rw [h4]
    clear h4 hm
    go_enter Try.func55, Try.ntmps55
    go_wp2_with fail
    go_loopw [11] (fun s11 wr => ∃ k : Nat, k ≤ 4 ∧ s11 = .int .i64 k ∧ (List.range k).all (okAt nm) = true ∧ SnI w.heap.size 100 nm k w wr) (fun s11 _ => 4 - (intOf s11).toNat)
    case atStart => exact ⟨0, by omega, rfl, rfl, hp_new rfl, (Below.refl _ _).alloc (Nat.le_refl _) _⟩
    case round =>
      obtain ⟨k, hk, rfl, hall, hI⟩ := hrel
      have HA := Lib.hid hall
      clear hall
      by_cases hlt : k < 4
      · obtain ⟨b, off, x, rfl, hlb, hx, h0⟩ := (hz.below hI.below (Nat.le_refl _)).at_ (show k < nm.length by rw [H4.out]; exact hlt)
        have HX := Lib.hid hx
        have hB := hI.below
        clear hx hz
        cases hr : isReg x
        · have HN := Lib.hid (isOrd_bad hlt (okAt_reg HX.out hr))
          have HW := Lib.hid (fun w => allows_any 1 x w)
          rw [show allowsK 1 x = isReg x from rfl, hr] at HW
          clear hr hI
          go_wp2_with (go_at_call 45; refine (HW.out _).mono ?_; rintro e w' ⟨rfl, rfl⟩)
          go_ret
          exact ⟨ret_int (by unfold nmC; rw [HN.out]; rfl), hB⟩
        · obtain ⟨r0, r3⟩ := isReg_iff.1 hr
          have r4 : x < 4 := by omega
          have HW := Lib.hid (fun w => allows_any 1 x w)
          rw [show allowsK 1 x = isReg x from rfl, hr] at HW
          have s1 := hp_cell hI.bh (bv_get (seenAt nm k) x.toNat (by rw [seenAt_length]; omega))
          have s2 := hp_free hI.bh x.toNat
          generalize hs : (seenAt nm k).getD x.toNat false = s at s1
          have HOk := Lib.hid (okAt_seen HX.out hr hs)
          have HI := Lib.hid hI
          clear hr hs hI
          cases s
          · go_wp2_with (go_at_call 45; refine (HW.out _).mono ?_; rintro e w' ⟨rfl, rfl⟩)
            go_roundw
            case rel => exact ⟨k + 1, by omega, by go_num, range_all_succ HA.out HOk.out, HI.out.put (Nat.le_refl _) HX.out⟩
            case measure => simp [intOf]; omega
          · have HN := Lib.hid (isOrd_bad hlt HOk.out)
            go_wp2_with (go_at_call 45; refine (HW.out _).mono ?_; rintro e w' ⟨rfl, rfl⟩)
            go_ret
            exact ⟨ret_int (by unfold nmC; rw [HN.out]; rfl), hB⟩
      · have hk4 : k = 4 := by omega
        subst hk4
        have HN := Lib.hid (isOrd_good H4.out HA.out)
        have hB := hI.below
        clear hI
        go_wp2_with fail
        go_ret
        exact ⟨ret_int (by unfold nmC; rw [HN.out]; rfl), hB⟩
  · have HN := Lib.hid (show nmC nm = 1 by unfold nmC; rw [isOrd_short h4]; rfl)
    rw [HN.out]
    have h4' : ((nm.length : Int) != 4) = true := by rw [bne_iff_ne]; omega
    have h4'' : ((nm.length : Int) == 4) = false := by rw [beq_eq_false_iff_ne]; omega
    clear h4 hz
    go_enter Try.func55, Try.ntmps55
    go_wp2_with fail
    go_ret
    exact ⟨rfl, Below.refl _ _⟩

end Go.Proofs.Ytmideaancmpafac
