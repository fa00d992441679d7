/- validatePair, canExchange, CanExchange of both: contracts. -/
import Derived.Test.YtmideaancmpafacIndC
import Derived.Test.YtmideaancmpafacLns
import Derived.Test.YtmideaancmpafacRefA
import Derived.Test.YtmideaancmpafacPlain
import Derived.IntWalk
set_option linter.unusedVariables false
set_option linter.unusedSimpArgs false
namespace Go.Proofs.Ytmideaancmpafac
open Go.RowKit Tinker

theorem indB_in (l m : L) : indB l m = inB l m := by
  unfold indB inB
  have e1 : distB l m = dsB l m := rfl
  have e2 : distB m l = dsB m l := rfl
  rw [e1, e2]
  cases (l.op != 7) <;> cases (m.op != 7) <;> cases dsB l m <;> cases dsB m l <;> rfl

/-- The error of a pair of lines. -/
def epC (ps : List L) (n : Int) : Int := if vp ps = 0 then (if btw n 0 ((ps.length : Int) - 2) then 0 else 4) else vp ps
/-- Whether the lines at k and k + 1 can be exchanged. -/
def ceB (ps : List L) (k : Nat) : Bool := skB ps k && indB (ps.getD k ⟨0, 0, 0, 0⟩) (ps.getD (k + 1) ⟨0, 0, 0, 0⟩)
def ceA (ps : List L) (n : Int) : Bool := if epC ps n = 0 then ceB ps n.toNat else false
theorem epC_ok {ps : List L} {n : Int} (h : epC ps n = 0) : vp ps = 0 ∧ 0 ≤ n ∧ n.toNat + 1 < ps.length := by
  unfold epC at h
  split at h
  · split at h
    · rename_i h1 h2
      have := btw_true.1 h2
      exact ⟨h1, by omega, by omega⟩
    · cases h
  · exact absurd h (by assumption)

/-- No skip of the first i lines leads between the lines k and k + 1. -/
def skF (p : List L) (k i : Nat) : Bool := (p.getD i ⟨0, 0, 0, 0⟩).op == 7 && ((i : Int) + 1 + (p.getD i ⟨0, 0, 0, 0⟩).to == (k : Int) + 1)
def skTo (p : List L) (k i : Nat) : Bool := (List.range i).all fun j => !skF p k j
theorem skB_to (p : List L) (k : Nat) : skB p k = skTo p k k := rfl
theorem skTo_succ {p : List L} {k i : Nat} (h : skTo p k i = true) (hf : skF p k i = false) : skTo p k (i + 1) = true := by
  unfold skTo at h ⊢
  rw [List.range_succ, List.all_append, h]
  simp [hf]
theorem skB_no {p : List L} {k i : Nat} (hi : i < k) (hf : skF p k i = true) : skB p k = false := by
  rw [skB_to, Bool.eq_false_iff]
  intro h
  have := List.all_eq_true.1 h i (List.mem_range.2 hi)
  rw [hf] at this; cases this
theorem ceB_no {p : List L} {k i : Nat} (hi : i < k) (hf : skF p k i = true) : ceB p k = false := by unfold ceB; rw [skB_no hi hf]; rfl

set_option maxRecDepth 100000 in
set_option maxHeartbeats 400000 in
theorem validatePair_any (a : Option Addr) (cap : Nat) (ps : List L) (n : Int) (w : World) (hp : LinesAt w a ps) (hm : ps.length ≤ 1000) :
    Calls Try.prog 53 #[.slice a ps.length cap, .int .i64 n] w fun e w' => e = .returned (.int .i64 (epC ps n)) ∧ Below w.heap.size w w' := by
  have HV := Lib.hid (validate_any a cap ps w hp)
  by_cases hz : vp ps = 0
  · have HZ := Lib.hid hz
    have HW := Lib.hid (fun w => isBetween_any n 0 ((ps.length : Int) - 2) w)
    cases hb : btw n 0 ((ps.length : Int) - 2)
    · have HE := Lib.hid (show epC ps n = 4 by unfold epC; rw [if_pos hz, hb]; rfl)
      rw [HE.out]
      rw [hb] at HW
      clear hz hb
      go_enter Try.func53, Try.ntmps53
      go_wp2_with fail
      refine HV.out.mono ?_
      rintro e w1 ⟨rfl, hB⟩
      rw [HZ.out]
      go_wp2_with (go_at_call 72; refine (HW.out _).mono ?_; rintro e w' ⟨rfl, rfl⟩)
      go_ret
      exact ⟨rfl, hB⟩
    · have HE := Lib.hid (show epC ps n = 0 by unfold epC; rw [if_pos hz, hb]; rfl)
      rw [HE.out]
      rw [hb] at HW
      clear hz hb
      go_enter Try.func53, Try.ntmps53
      go_wp2_with fail
      refine HV.out.mono ?_
      rintro e w1 ⟨rfl, hB⟩
      rw [HZ.out]
      go_wp2_with (go_at_call 72; refine (HW.out _).mono ?_; rintro e w' ⟨rfl, rfl⟩)
      go_ret
      exact ⟨rfl, hB⟩
  · have HE := Lib.hid (show epC ps n = vp ps by unfold epC; rw [if_neg hz])
    rw [HE.out]
    generalize vp ps = c at HV hz
    have hz1 : (c != 0) = true := by simpa using hz
    have hz2 : (c == 0) = false := by simpa using hz
    clear hz HE
    go_enter Try.func53, Try.ntmps53
    go_wp2_with fail
    refine HV.out.mono ?_
    rintro e w1 ⟨rfl, hB⟩
    go_wp2_with fail
    go_ret
    exact ⟨rfl, hB⟩

set_option maxRecDepth 100000 in
set_option maxHeartbeats 2000000 in
theorem canExchange_any (a : Option Addr) (cap : Nat) (ps : List L) (k : Nat) (w : World) (hp : LinesAt w a ps) (hv : ∀ l ∈ ps, isLn l = true) (hk : k + 1 < ps.length) (h8 : ps.length ≤ 8) (hcap : ps.length ≤ cap) :
    Calls Try.prog 54 #[.slice a ps.length cap, .int .i64 k] w fun e w' => e = .returned (.bool (ceB ps k)) ∧ Below w.heap.size w w' := by
  have k0 : (0 : Int) ≤ (k : Int) := by omega
  have k1 : (k : Int) ≤ (cap : Int) := by omega
  have k2 : (k : Int) ≤ 8 := by omega
  go_enter Try.func54, Try.ntmps54
  go_wp2_with fail
  go_loopw [11] (fun s11 wr => ∃ i : Nat, i ≤ k ∧ s11 = .int .i64 i ∧ skTo ps k i = true ∧ Below w.heap.size w wr) (fun s11 _ => k - (intOf s11).toNat)
  case atStart => exact ⟨0, Nat.zero_le _, rfl, rfl, Below.refl _ _⟩
  case round =>
    obtain ⟨i, hi, rfl, hsk, hB⟩ := hrel
    have HSk := Lib.hid hsk
    clear hsk
    by_cases hlt : i < k
    · obtain ⟨pb, po, l, rfl, hlb, hl, c0, c1, c2, c3⟩ := (hp.below hB (Nat.le_refl _)).at_ (show i < ps.length by omega)
      have hln := hv l (mem_of_get hl)
      have HF := Lib.hid (show skF ps k i = (l.op == 7 && ((i : Int) + 1 + l.to == (k : Int) + 1)) by unfold skF; rw [getD_of_get hl])
      clear hl
      by_cases h7 : l.op = 7
      · have h7b : (l.op == 7) = true := by simpa using h7
        obtain ⟨t1, t8⟩ := isLn_skip hln h7
        rw [h7b, Bool.true_and] at HF
        clear h7
        by_cases he : (i : Int) + 1 + l.to = (k : Int) + 1
        · have he2 : ((i : Int) + 1 + l.to == (k : Int) + 1) = true := by simpa using he
          rw [he2] at HF
          have HN := Lib.hid (ceB_no hlt HF.out)
          clear he
          go_wp2_with fail
          go_ret
          exact ⟨ret_bool HN.out.symm, hB.alloc hB.size _⟩
        · have he2 : ((i : Int) + 1 + l.to == (k : Int) + 1) = false := by simpa using he
          rw [he2] at HF
          clear he
          go_wp2_with fail
          go_roundw
          case rel => exact ⟨i + 1, by omega, by go_num, skTo_succ HSk.out HF.out, hB.alloc hB.size _⟩
          case measure => simp [intOf]; omega
      · have h7b : (l.op == 7) = false := by simpa using h7
        rw [h7b, Bool.false_and] at HF
        clear h7
        go_wp2_with fail
        go_roundw
        case rel => exact ⟨i + 1, by omega, by go_num, skTo_succ HSk.out HF.out, hB.alloc hB.size _⟩
        case measure => simp [intOf]; omega
    · have hik : i = k := by omega
      have HB' := Lib.hid (show skB ps k = true by rw [skB_to]; rw [hik] at HSk; exact HSk.out)
      obtain ⟨pb, po, l, rfl, hlb, hl, c0, c1, c2, c3⟩ := (hp.below hB (Nat.le_refl _)).at_ (show k < ps.length by omega)
      obtain ⟨pb', po', m, e', hmb, hm', d0, d1, d2, d3⟩ := (hp.below hB (Nat.le_refl _)).at_ hk
      injection e' with e'
      injection e' with e1 e2
      subst e1 e2
      have hln := hv l (mem_of_get hl)
      have hmn := hv m (mem_of_get hm')
      have HE := Lib.hid (show ceB ps k = indB l m by unfold ceB; rw [HB'.out, getD_of_get hl, getD_of_get hm']; rfl)
      have HA := Lib.hid (fun w => areIndependent_any l m w hln hmn)
      clear hl hm' hik HSk
      have g2 : ((k : Int) + 1).toNat = k + 1 := by omega
      have g3 : IntKind.i64.wrap ((k : Int) + 1) = (k : Int) + 1 := IntWalk.i64_in _ (by omega)
      have g4 : (k : Int) + 1 < (ps.length : Int) := by omega
      have g5 : (k : Int) < (ps.length : Int) := by omega
      have g6 : (0 : Int) ≤ (k : Int) + 1 := by omega
      go_wp2_with fail
      go_region_held3 (fun w' => w'.cell? ⟨pb, po + k * 4, none⟩ = some (.int .i64 l.op) ∧ w'.cell? ⟨pb, po + k * 4 + 1, none⟩ = some (.int .i64 l.to) ∧ w'.cell? ⟨pb, po + k * 4 + 2, none⟩ = some (.int .i64 l.a) ∧ w'.cell? ⟨pb, po + k * 4 + 3, none⟩ = some (.int .i64 l.b) ∧ w'.cell? ⟨pb, po + (k + 1) * 4, none⟩ = some (.int .i64 m.op) ∧ w'.cell? ⟨pb, po + (k + 1) * 4 + 1, none⟩ = some (.int .i64 m.to) ∧ w'.cell? ⟨pb, po + (k + 1) * 4 + 2, none⟩ = some (.int .i64 m.a) ∧ w'.cell? ⟨pb, po + (k + 1) * 4 + 3, none⟩ = some (.int .i64 m.b)) (first | exact ⟨c0, c1, c2, c3, d0, d1, d2, d3⟩ | exact ⟨(hBa.cell (p := ⟨pb, _, none⟩) hlb).trans c0, (hBa.cell (p := ⟨pb, _, none⟩) hlb).trans c1, (hBa.cell (p := ⟨pb, _, none⟩) hlb).trans c2, (hBa.cell (p := ⟨pb, _, none⟩) hlb).trans c3, (hBa.cell (p := ⟨pb, _, none⟩) hlb).trans d0, (hBa.cell (p := ⟨pb, _, none⟩) hlb).trans d1, (hBa.cell (p := ⟨pb, _, none⟩) hlb).trans d2, (hBa.cell (p := ⟨pb, _, none⟩) hlb).trans d3⟩ | go_keep) ((go_at_call 78; refine (HA.out _).mono ?_; rintro e wa ⟨rfl, hBa⟩))
      all_goals clear g2 g3
      all_goals go_wp2_with fail
      all_goals go_ret
      all_goals exact ⟨ret_bool HE.out.symm, hB.drew.trans (hBa.mono hB.drew.size)⟩

end Go.Proofs.Ytmideaancmpafac
