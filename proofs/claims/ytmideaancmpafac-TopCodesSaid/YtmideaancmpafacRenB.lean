/- Move of both: contracts. -/
import Derived.Test.YtmideaancmpafacRenA
import Derived.Test.YtmideaancmpafacRefC
import Derived.BigRegion
set_option linter.unusedVariables false
set_option linter.unusedSimpArgs false
namespace Go.Proofs.Ytmideaancmpafac
open Go.RowKit Tinker

def moC (s nm : List Int) : Int := fe (vs s) (nmC nm)
def moP (s nm : List Int) : List Int := if moC s nm = 0 then mv nm s else []
theorem moC_ok {s nm : List Int} (h : moC s nm = 0) : vs s = 0 ∧ isOrd nm = true := by
  unfold moC fe at h
  split at h
  · refine ⟨by assumption, ?_⟩
    unfold nmC at h
    split at h
    · assumption
    · cases h
  · exact absurd h (by assumption)
theorem moP_yes {s nm : List Int} (h : moC s nm = 0) : moP s nm = mv nm s := by unfold moP; rw [if_pos h]
theorem moP_no {s nm : List Int} (h : moC s nm ≠ 0) : moP s nm = [] := by unfold moP; rw [if_neg h]
theorem moP_len (s nm : List Int) : (moP s nm).length ≤ 4 := by unfold moP; split <;> simp [mv_length]

theorem mkI4 (w : World) : (Instr.makeSlice 23 (.int .i64 4) (.int .i64 4)).run Try.prog w = .ok (.slice (some ⟨w.heap.size, 0, none⟩) 4 4) (w.alloc (.cells #[.int .i64 0, .int .i64 0, .int .i64 0, .int .i64 0] 3)) := by kernel_rfl

/-- The registers that have moved so far: block M. -/
structure MvI (M : Nat) (nm s : List Int) (k : Nat) (w W : World) : Prop where
  bm : W.heap[M]? = some (.cells (iv (mvTo nm s k)) 3 (0, 0))
  below : Below w.heap.size w W
theorem MvI.drew {M : Nat} {nm s : List Int} {k : Nat} {w W : World} (h : MvI M nm s k w W) : MvI M nm s k w W.drew := ⟨hp_drew h.bm, h.below.drew⟩
theorem MvI.put {M : Nat} {nm s : List Int} {k : Nat} {w W : World} (h : MvI M nm s k w W) (hM : w.heap.size ≤ M) {x y : Int} (hx : nm[k]? = some x) (hy : s[k]? = some y) : MvI M nm s (k + 1) w (W.setCell ⟨M, x.toNat, none⟩ (.int .i64 y)) :=
  ⟨by rw [mvTo, getD_of_get hx, getD_of_get hy, ← iv_set]; exact hp_put h.bm _ _, h.below.setCell (p := ⟨M, _, none⟩) hM _⟩
theorem MvI.ints {M : Nat} {nm s : List Int} {w W : World} (h : MvI M nm s 4 w W) : IntsAt W (some ⟨M, 0, none⟩) (mv nm s) :=
  .inr ⟨M, 0, rfl, hp_lt h.bm, fun j z hj => by
    rw [Nat.zero_add]
    have hl : j < (mvTo nm s 4).length := (List.getElem?_eq_some_iff.1 hj).1
    have := hp_cell h.bm (iv_getN (mvTo nm s 4) j hl)
    rwa [getD_of_get (show (mvTo nm s 4)[j]? = some z from hj)] at this⟩

set_option maxRecDepth 100000 in
set_option maxHeartbeats 2000000 in
theorem move_any (a b : Option Addr) (ca cb : Nat) (s nm : List Int) (w : World) (hs : IntsAt w a s) (hn : IntsAt w b nm) (hm : s.length ≤ 1000) (hm2 : nm.length ≤ 1000) :
    Calls Try.prog 23 #[.slice a s.length ca, .slice b nm.length cb] w (GivesR (moP s nm) (moC s nm) w) := by
  have HV := Lib.hid (validateState_any a ca s w hs (by omega))
  have HN := Lib.hid (fun w hn => validateNames_any b cb nm w hn hm2)
  by_cases hz : moC s nm = 0
  · obtain ⟨h1, h2⟩ := moC_ok hz
    have HE := Lib.hid hz
    have HP := Lib.hid (moP_yes hz)
    have h4 := (vs_ok h1).1
    have HReg := Lib.hid (fun k hk => isOrd_reg h2 (k := k) hk)
    have H4 := Lib.hid h4
    have HN4 := Lib.hid (isOrd_len h2)
    have HL := Lib.hid (mv_length nm s)
    have hmk := mkI4
    rw [HP.out, HE.out]
    rw [h4] at HV ⊢
    rw [HN4.out] at HN ⊢
    have HF := Lib.hid (show fe (vs s) (nmC nm) = 0 from hz)
    clear hz h1 h2 h4
    go_enter Try.func23, Try.ntmps23
    go_wp2_with fail
    refine HV.out.mono ?_
    rintro e w1 ⟨rfl, rfl⟩
    go_wp2_with fail
    refine (HN.out _ hn).mono ?_
    rintro e w2 ⟨rfl, hB2⟩
    go_wp2_with fail
    refine (firstError_two _ _ _ _).mono ?_
    rintro e w3 ⟨rfl, rfl⟩
    rw [HF.out]
    have hB3 := hB2.alloc hB2.size (.cells #[.int .i64 (vs s), .int .i64 (nmC nm)] 32)
    clear hB2
    go_wp2_with fail
    clear hmk
    have hI0 : MvI (w2.heap.size + 1) nm s 0 w ((w2.alloc (.cells #[.int .i64 (vs s), .int .i64 (nmC nm)] 32)).alloc (.cells #[.int .i64 0, .int .i64 0, .int .i64 0, .int .i64 0] 3)) := ⟨hp_new (by simp), hB3.alloc hB3.size _⟩
    have hM : w.heap.size ≤ w2.heap.size + 1 := by have := hB3.size; simp at this; omega
    generalize w2.heap.size + 1 = M at hI0 hM
    go_loopw [22] (fun s22 wr => ∃ k : Nat, k ≤ 4 ∧ s22 = .int .i64 k ∧ MvI M nm s k w wr) (fun s22 _ => 4 - (intOf s22).toNat)
    case atStart => exact ⟨0, by omega, rfl, hI0⟩
    case round =>
      clear hI0 hB3
      obtain ⟨k, hk, rfl, hI⟩ := hrel
      by_cases hlt : k < 4
      · obtain ⟨sb, so, y, rfl, hsb, hy, y0⟩ := (hs.below hI.below (Nat.le_refl _)).at_ (show k < s.length by rw [H4.out]; exact hlt)
        obtain ⟨nb, no_, x, rfl, hnb, hx, x0⟩ := (hn.below hI.below (Nat.le_refl _)).at_ (show k < nm.length by rw [HN4.out]; exact hlt)
        have hreg := HReg.out k hlt
        rw [getD_of_get hx] at hreg
        obtain ⟨r0, r3⟩ := hreg
        have r4 : x < 4 := by omega
        have m1 := hp_cell hI.bm (iv_get (mvTo nm s k) x (by rw [mvTo_length]; omega))
        have m2 := hp_free hI.bm x.toNat
        have HX := Lib.hid hx
        have HY := Lib.hid hy
        have HI := Lib.hid hI
        clear hx hy hI
        go_wp2_with fail
        go_roundw
        case rel => exact ⟨k + 1, by omega, by go_num, HI.out.put hM HX.out HY.out⟩
        case measure => simp [intOf]; omega
      · have hk4 : k = 4 := by omega
        subst hk4
        have HI := Lib.hid hI
        clear hI
        go_wp2_with fail
        go_ret2
        exact ⟨_, _, by rw [HL.out]; rfl, HI.out.ints, HI.out.below⟩
  · have HP := Lib.hid (moP_no hz)
    rw [HP.out]
    have HF := Lib.hid (show fe (vs s) (nmC nm) = moC s nm from rfl)
    have hz1 : (moC s nm != 0) = true := by simpa using hz
    have hz2 : (moC s nm == 0) = false := by simpa using hz
    generalize moC s nm = c at HF hz1 hz2
    clear hz HP
    go_enter Try.func23, Try.ntmps23
    go_wp2_with fail
    refine HV.out.mono ?_
    rintro e w1 ⟨rfl, rfl⟩
    go_wp2_with fail
    refine (HN.out _ hn).mono ?_
    rintro e w2 ⟨rfl, hB2⟩
    go_wp2_with fail
    refine (firstError_two _ _ _ _).mono ?_
    rintro e w3 ⟨rfl, rfl⟩
    rw [HF.out]
    have hB3 := hB2.alloc hB2.size (.cells #[.int .i64 (vs s), .int .i64 (nmC nm)] 32)
    clear hB2
    go_wp2_with fail
    go_ret2
    exact givesR_nil hB3

end Go.Proofs.Ytmideaancmpafac
