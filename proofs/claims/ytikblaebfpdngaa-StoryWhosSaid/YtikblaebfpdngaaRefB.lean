/- Several texts in one. -/
import Derived.Test.YtikblaebfpdngaaLineC
/- Validate, ValidateState, asked, Cut, value of the document's answers: contracts. -/
set_option linter.unusedVariables false
set_option linter.unusedSimpArgs false
namespace Go.Proofs.Ytikblaebfpdngaa
open Go.RowKit Tinker

set_option maxHeartbeats 400000 in
theorem rValidate_any (a : Option Addr) (cap : Nat) (ps : List L) (w : World) (hp : LinesAt w a ps) :
    Calls Try.prog 44 #[.slice a ps.length cap] w fun e w' => e = .returned (.int .i64 (vp ps)) ∧ Below w.heap.size w w' := by
  by_cases h8 : ps.length ≤ 8
  · go_enter Try.func44, Try.ntmps44
    go_wp2_with fail
    go_loopw [3] (fun i wr => ∃ k : Nat, k ≤ ps.length ∧ i = .int .i64 k ∧ (ps.take k).all isLn = true ∧ Below w.heap.size w wr) (fun i _ => ps.length - (intOf i).toNat)
    case atStart => exact ⟨0, Nat.zero_le _, rfl, by simp, Below.refl _ _⟩
    case round =>
      obtain ⟨k, hk, rfl, hall, hB⟩ := hrel
      have HA := Lib.hid hall
      clear hall
      by_cases hlt : k < ps.length
      · obtain ⟨b, off, l, rfl, hlb, hl, h0, h1, h2, h3⟩ := (hp.below hB (Nat.le_refl _)).at_ hlt
        have HL := Lib.hid hl
        clear hp hl
        go_wp2_with fail
        refine (rIsLine_any l _).mono ?_
        rintro e w1 ⟨rfl, hB1⟩
        have hB2 : Below w.heap.size w w1 := hB.trans (hB1.mono hB.size)
        cases hv : isLn l
        · have HV := Lib.hid hv
          clear hv
          go_wp2
          go_ret
          exact ⟨ret_int (vp_bad h8 (all_not HL.out HV.out)).symm, hB2⟩
        · have HV := Lib.hid hv
          clear hv
          go_wp2
          go_roundw
          case rel => exact ⟨k + 1, by omega, by go_num, all_snoc HA.out HL.out HV.out, hB2⟩
          case measure => simp [intOf]; omega
      · go_wp2
        go_ret
        exact ⟨ret_int (vp_good h8 (all_whole HA.out hlt)).symm, hB⟩
  · rw [vp_large (by omega)]
    have h9 : 8 < ps.length := by omega
    clear h8
    go_enter Try.func44, Try.ntmps44
    go_wp2
    go_ret
    exact ⟨rfl, Below.refl _ _⟩

end Go.Proofs.Ytikblaebfpdngaa

/- value of the document's answers: contract. -/
set_option linter.unusedVariables false
set_option linter.unusedSimpArgs false
namespace Go.Proofs.Ytikblaebfpdngaa
open Go.RowKit Tinker

theorem okS_at {w : World} {a : Option Addr} {s : List Int} (hs : IntsAt w a s) (ho : okS s) (n : Int) (h0 : 0 ≤ n) (h3 : n ≤ 3) : ∃ b off, a = some ⟨b, off, none⟩ ∧ b < w.heap.size ∧ ∀ n : Int, 0 ≤ n → n ≤ 3 → w.cell? ⟨b, off + n.toNat, none⟩ = some (.int .i64 (rg s n)) := by
  obtain ⟨b, off, e, hlt, hc⟩ := hs.resolve_left (by rintro rfl; have := ho.1; simp at this)
  refine ⟨b, off, e, hlt, fun n h0 h3 => ?_⟩
  obtain ⟨x, hx⟩ := get_of_lt (show n.toNat < s.length by have := ho.1; omega)
  have : rg s n = x := getD_of_get hx
  rw [this]
  exact hc _ _ hx

end Go.Proofs.Ytikblaebfpdngaa
