/- Several texts in one. -/
import Derived.Test.YtdcoebeffbkpnaaRefC
import Derived.Test.YtdcoebeffbkpnaaKnownT
import Derived.IntWalk
/- IsSet of both, validateForced: contracts. -/
set_option linter.unusedVariables false
set_option linter.unusedSimpArgs false
namespace Go.Proofs.Ytdcoebeffbkpnaa
open Go.RowKit Tinker

/-- The first numbers are strictly ascending. -/
def AscTo (l : List Int) (k : Nat) : Prop := ∀ i, i < k → i + 1 < l.length → l.getD i 0 < l.getD (i + 1) 0
theorem ascTo_zero (l : List Int) : AscTo l 0 := fun i hi => by omega
theorem ascTo_succ {l : List Int} {k : Nat} {x y : Int} (h : AscTo l k) (hx : l[k]? = some x) (hy : l[k + 1]? = some y) (hxy : x < y) : AscTo l (k + 1) := fun i hi h1 => by
  rcases Nat.lt_or_ge i k with h2 | h2
  · exact h i h2 h1
  · have : i = k := by omega
    subst this
    rw [getD_of_get hx, getD_of_get hy]; exact hxy
theorem isSetB_yes {l : List Int} {k : Nat} (h : AscTo l k) (hk : l.length ≤ k + 1) : isSetB l = true := (isSetB_iff l).2 fun i hi => h i (by omega) hi
theorem isSetB_no {l : List Int} {k : Nat} {x y : Int} (hx : l[k]? = some x) (hy : l[k + 1]? = some y) (hxy : y ≤ x) : isSetB l = false := by
  rw [Bool.eq_false_iff]; intro h
  have := (isSetB_iff l).1 h k (List.getElem?_eq_some_iff.1 hy).1
  rw [getD_of_get hx, getD_of_get hy] at this
  omega

set_option maxHeartbeats 400000 in
theorem rIsSet_any (a : Option Addr) (cap : Nat) (zs : List Int) (w : World) (hz : IntsAt w a zs) (hm : zs.length ≤ 1000) :
    Calls Try.prog 98 #[.slice a zs.length cap] w fun e w' => e = .returned (.bool (isSetB zs)) ∧ Below w.heap.size w w' := by
  go_enter Try.func98, Try.ntmps98
  go_wp2_with fail
  go_loopw [3] (fun i wr => ∃ k : Nat, k ≤ zs.length ∧ i = .int .i64 ((k : Int) + 1) ∧ AscTo zs k ∧ Below w.heap.size w wr) (fun i _ => (zs.length + 1 - intOf i).toNat)
  case atStart => exact ⟨0, Nat.zero_le _, rfl, ascTo_zero _, Below.refl _ _⟩
  case round =>
    obtain ⟨k, hk, rfl, hall, hB⟩ := hrel
    have HA := Lib.hid hall
    clear hall
    by_cases hlt : k + 1 < zs.length
    · obtain ⟨b, off, x, rfl, hlb, hx, h0⟩ := (hz.below hB (Nat.le_refl _)).at_ (show k < zs.length by omega)
      obtain ⟨b', off', y, e', _, hy, h1⟩ := (hz.below hB (Nat.le_refl _)).at_ hlt
      injection e' with e'
      injection e' with e1 e2
      subst e1 e2
      have HX := Lib.hid hx
      have HY := Lib.hid hy
      clear hx hy hz
      have g0 : (0 : Int) ≤ (k : Int) := by omega
      have g1 : (k : Int) + 1 < (zs.length : Int) := by omega
      have g2 : ((k : Int) + 1).toNat = k + 1 := by omega
      have g3 : IntKind.i64.wrap ((k : Int) + 1 - 1) = (k : Int) := by rw [IntWalk.i64_in _ (by omega)]; omega
      by_cases hxy : x < y
      · have hxy2 : decide (y ≤ x) = false := by simp; omega
        have HN := Lib.hid hxy
        clear hxy
        go_wp2_with fail
        go_quiet (fail)
        clear g2 g3
        go_wp2_with fail
        go_roundw
        case rel => exact ⟨k + 1, by omega, by go_num, ascTo_succ HA.out HX.out HY.out HN.out, hB.trans (Below.mono ⟨rfl, rfl, rfl, Nat.le_refl _, fun _ _ => rfl⟩ hB.size)⟩
        case measure => simp [intOf]; omega
      · have hxy2 : decide (y ≤ x) = true := by simp; omega
        have HN := Lib.hid hxy
        clear hxy
        go_wp2_with fail
        go_quiet (fail)
        clear g2 g3
        go_wp2_with fail
        go_ret
        exact ⟨ret_bool (isSetB_no HX.out HY.out HN.out).symm, hB.trans (Below.mono ⟨rfl, rfl, rfl, Nat.le_refl _, fun _ _ => rfl⟩ hB.size)⟩
    · go_wp2_with fail
      go_ret
      exact ⟨ret_bool (isSetB_yes HA.out (by omega)).symm, hB⟩

set_option maxHeartbeats 400000 in
theorem kIsSet_any (a : Option Addr) (cap : Nat) (zs : List Int) (w : World) (hz : IntsAt w a zs) (hm : zs.length ≤ 1000) :
    Calls Try.prog 92 #[.slice a zs.length cap] w fun e w' => e = .returned (.bool (isSetB zs)) ∧ Below w.heap.size w w' := by
  go_enter Try.func92, Try.ntmps92
  go_wp2_with fail
  go_loopw [3] (fun i wr => ∃ k : Nat, k ≤ zs.length ∧ i = .int .i64 ((k : Int) + 1) ∧ AscTo zs k ∧ Below w.heap.size w wr) (fun i _ => (zs.length + 1 - intOf i).toNat)
  case atStart => exact ⟨0, Nat.zero_le _, rfl, ascTo_zero _, Below.refl _ _⟩
  case round =>
    obtain ⟨k, hk, rfl, hall, hB⟩ := hrel
    have HA := Lib.hid hall
    clear hall
    by_cases hlt : k + 1 < zs.length
    · obtain ⟨b, off, x, rfl, hlb, hx, h0⟩ := (hz.below hB (Nat.le_refl _)).at_ (show k < zs.length by omega)
      obtain ⟨b', off', y, e', _, hy, h1⟩ := (hz.below hB (Nat.le_refl _)).at_ hlt
      injection e' with e'
      injection e' with e1 e2
      subst e1 e2
      have HX := Lib.hid hx
      have HY := Lib.hid hy
      clear hx hy hz
      have g0 : (0 : Int) ≤ (k : Int) := by omega
      have g1 : (k : Int) + 1 < (zs.length : Int) := by omega
      have g2 : ((k : Int) + 1).toNat = k + 1 := by omega
      have g3 : IntKind.i64.wrap ((k : Int) + 1 - 1) = (k : Int) := by rw [IntWalk.i64_in _ (by omega)]; omega
      by_cases hxy : x < y
      · have hxy2 : decide (y ≤ x) = false := by simp; omega
        have HN := Lib.hid hxy
        clear hxy
        go_wp2_with fail
        go_quiet (fail)
        clear g2 g3
        go_wp2_with fail
        go_roundw
        case rel => exact ⟨k + 1, by omega, by go_num, ascTo_succ HA.out HX.out HY.out HN.out, hB.trans (Below.mono ⟨rfl, rfl, rfl, Nat.le_refl _, fun _ _ => rfl⟩ hB.size)⟩
        case measure => simp [intOf]; omega
      · have hxy2 : decide (y ≤ x) = true := by simp; omega
        have HN := Lib.hid hxy
        clear hxy
        go_wp2_with fail
        go_quiet (fail)
        clear g2 g3
        go_wp2_with fail
        go_ret
        exact ⟨ret_bool (isSetB_no HX.out HY.out HN.out).symm, hB.trans (Below.mono ⟨rfl, rfl, rfl, Nat.le_refl _, fun _ _ => rfl⟩ hB.size)⟩
    · go_wp2_with fail
      go_ret
      exact ⟨ret_bool (isSetB_yes HA.out (by omega)).symm, hB⟩

/-- The errors of what is forced. -/
def allWr (p : List L) (ls : List Int) : Bool := ls.all fun n => Tinker.wr (p.getD n.toNat ⟨0, 0, 0, 0⟩)
def fcC (p : List L) (ls vs : List Int) : Int :=
  if isSetB ls = false then 1 else if allBtw ls 0 ((p.length : Int) - 1) = false then 4 else if ls.length ≠ vs.length then 9 else if allBtw vs (-999) 999 = false then 1 else if allWr p ls = false then 6 else 0
theorem fcC_1 {p : List L} {ls vs : List Int} (h1 : isSetB ls = false) : fcC p ls vs = 1 := by unfold fcC; rw [if_pos h1]
theorem fcC_4 {p : List L} {ls vs : List Int} (h1 : isSetB ls = true) (h2 : allBtw ls 0 ((p.length : Int) - 1) = false) : fcC p ls vs = 4 := by unfold fcC; rw [if_neg (by simp [h1]), if_pos h2]
theorem fcC_9 {p : List L} {ls vs : List Int} (h1 : isSetB ls = true) (h2 : allBtw ls 0 ((p.length : Int) - 1) = true) (h3 : ls.length ≠ vs.length) : fcC p ls vs = 9 := by unfold fcC; rw [if_neg (by simp [h1]), if_neg (by simp [h2]), if_pos h3]
theorem fcC_1' {p : List L} {ls vs : List Int} (h1 : isSetB ls = true) (h2 : allBtw ls 0 ((p.length : Int) - 1) = true) (h3 : ls.length = vs.length) (h4 : allBtw vs (-999) 999 = false) : fcC p ls vs = 1 := by unfold fcC; rw [if_neg (by simp [h1]), if_neg (by simp [h2]), if_neg (by omega), if_pos h4]
theorem fcC_6 {p : List L} {ls vs : List Int} (h1 : isSetB ls = true) (h2 : allBtw ls 0 ((p.length : Int) - 1) = true) (h3 : ls.length = vs.length) (h4 : allBtw vs (-999) 999 = true) (h5 : allWr p ls = false) : fcC p ls vs = 6 := by unfold fcC; rw [if_neg (by simp [h1]), if_neg (by simp [h2]), if_neg (by omega), if_neg (by simp [h4]), if_pos h5]
theorem fcC_0 {p : List L} {ls vs : List Int} (h1 : isSetB ls = true) (h2 : allBtw ls 0 ((p.length : Int) - 1) = true) (h3 : ls.length = vs.length) (h4 : allBtw vs (-999) 999 = true) (h5 : allWr p ls = true) : fcC p ls vs = 0 := by unfold fcC; rw [if_neg (by simp [h1]), if_neg (by simp [h2]), if_neg (by omega), if_neg (by simp [h4]), if_neg (by simp [h5])]
theorem fcC_ok {p : List L} {ls vs : List Int} (h : fcC p ls vs = 0) : isSetB ls = true ∧ allBtw ls 0 ((p.length : Int) - 1) = true ∧ ls.length = vs.length ∧ allBtw vs (-999) 999 = true ∧ allWr p ls = true := by
  unfold fcC at h
  split at h
  · cases h
  · split at h
    · cases h
    · split at h
      · cases h
      · split at h
        · cases h
        · split at h
          · cases h
          · rename_i h1 h2 h3 h4 h5
            exact ⟨by simpa using h1, by simpa using h2, by omega, by simpa using h4, by simpa using h5⟩
theorem allBtw_at {l : List Int} {lo hi : Int} (h : allBtw l lo hi = true) {n : Int} (hn : n ∈ l) : lo ≤ n ∧ n ≤ hi := btw_true.1 (List.all_eq_true.1 h n hn)

set_option maxRecDepth 100000 in
set_option maxHeartbeats 1000000 in
theorem validateForced_any (a b c : Option Addr) (ca cb cc : Nat) (ps : List L) (ls vs : List Int) (w : World) (hp : LinesAt w a ps) (hl : IntsAt w b ls) (hv : IntsAt w c vs) (h8 : ps.length ≤ 8) (hli : ∀ l ∈ ps, isLn l = true) (hm : ls.length ≤ 1000) (hm2 : vs.length ≤ 1000) :
    Calls Try.prog 125 #[.slice a ps.length ca, .slice b ls.length cb, .slice c vs.length cc] w fun e w' => e = .returned (.int .i64 (fcC ps ls vs)) ∧ Below w.heap.size w w' := by
  have H1 := Lib.hid (kIsSet_any b cb ls w hl hm)
  have H2 := Lib.hid (fun w hl => areBetween_any b cb ls 0 ((ps.length : Int) - 1) w hl (by omega))
  have H4 := Lib.hid (fun w hv => areBetween_any c cc vs (-999) 999 w hv (by omega))
  have g1 : (0 : Int) ≤ (ps.length : Int) := by omega
  have g2 : (ps.length : Int) ≤ 8 := by omega
  cases h1 : isSetB ls
  · have HE := Lib.hid (fcC_1 (p := ps) (vs := vs) h1)
    rw [HE.out]
    rw [h1] at H1
    clear h1 hp hl hv
    go_enter Try.func125, Try.ntmps125
    go_wp2_with fail
    refine H1.out.mono ?_
    rintro e w1 ⟨rfl, hB⟩
    go_wp2_with fail
    go_ret
    exact ⟨rfl, hB⟩
  · rw [h1] at H1
    cases h2 : allBtw ls 0 ((ps.length : Int) - 1)
    · have HE := Lib.hid (fcC_4 (p := ps) (vs := vs) h1 h2)
      rw [HE.out]
      rw [h2] at H2
      clear h1 h2 hp hv
      go_enter Try.func125, Try.ntmps125
      go_wp2_with fail
      refine H1.out.mono ?_
      rintro e w1 ⟨rfl, hB⟩
      go_wp2_with fail
      refine (H2.out _ (hl.below hB (Nat.le_refl _))).mono ?_
      rintro e w2 ⟨rfl, rfl⟩
      go_wp2_with fail
      go_ret
      exact ⟨rfl, hB⟩
    · rw [h2] at H2
      by_cases h3 : ls.length = vs.length
      · have g3 : ((ls.length : Int) != (vs.length : Int)) = false := by rw [h3]; simp
        cases h4 : allBtw vs (-999) 999
        · have HE := Lib.hid (fcC_1' (p := ps) h1 h2 h3 h4)
          rw [HE.out]
          rw [h4] at H4
          clear h1 h2 h3 h4 hp
          go_enter Try.func125, Try.ntmps125
          go_wp2_with fail
          refine H1.out.mono ?_
          rintro e w1 ⟨rfl, hB⟩
          go_wp2_with fail
          refine (H2.out _ (hl.below hB (Nat.le_refl _))).mono ?_
          rintro e w2 ⟨rfl, rfl⟩
          go_wp2_with fail
          refine (H4.out _ (hv.below hB (Nat.le_refl _))).mono ?_
          rintro e w2 ⟨rfl, rfl⟩
          go_wp2_with fail
          go_ret
          exact ⟨rfl, hB⟩
        · rw [h4] at H4
          have HE6 := Lib.hid (fun h5 => fcC_6 (p := ps) h1 h2 h3 h4 h5)
          have HE0 := Lib.hid (fun h5 => fcC_0 (p := ps) h1 h2 h3 h4 h5)
          have HBt := Lib.hid (fun n hn => allBtw_at h2 (n := n) hn)
          clear h1 h2 h3 h4
          go_enter Try.func125, Try.ntmps125
          go_wp2_with fail
          refine H1.out.mono ?_
          rintro e w1 ⟨rfl, hB⟩
          go_wp2_with fail
          refine (H2.out _ (hl.below hB (Nat.le_refl _))).mono ?_
          rintro e w2 ⟨rfl, rfl⟩
          go_wp2_with fail
          refine (H4.out _ (hv.below hB (Nat.le_refl _))).mono ?_
          rintro e w2 ⟨rfl, rfl⟩
          go_wp2_with fail
          go_loopw [32] (fun s32 wr => ∃ k : Nat, k ≤ ls.length ∧ s32 = .int .i64 k ∧ (ls.take k).all (fun n => Tinker.wr (ps.getD n.toNat ⟨0, 0, 0, 0⟩)) = true ∧ Below w.heap.size w wr) (fun s32 _ => ls.length - (intOf s32).toNat)
          case atStart => exact ⟨0, Nat.zero_le _, rfl, by simp, hB⟩
          case round =>
            clear hB
            obtain ⟨k, hk, rfl, hall, hB⟩ := hrel
            have HA := Lib.hid hall
            clear hall
            by_cases hlt : k < ls.length
            · obtain ⟨lb, lo, n, rfl, hlb, hn, n0⟩ := (hl.below hB (Nat.le_refl _)).at_ hlt
              obtain ⟨q0, q1⟩ := HBt.out n (mem_of_get hn)
              obtain ⟨pb, po, l, rfl, hpb, hl', c0, c1, c2, c3⟩ := (hp.below hB (Nat.le_refl _)).at_ (show n.toNat < ps.length by omega)
              have hln := hli l (mem_of_get hl')
              have q2 : n < 8 := by omega
              have HN := Lib.hid hn
              have HX := Lib.hid (show Tinker.wr (ps.getD n.toNat ⟨0, 0, 0, 0⟩) = Tinker.wr l by rw [getD_of_get hl'])
              clear hn hl' hl hp
              go_wp2_with fail
              refine (writes_any l _ hln).mono ?_
              rintro e w3 ⟨rfl, hB3⟩
              have hB4 := hB.trans (hB3.mono hB.size)
              cases hw : Tinker.wr l
              · have HW := Lib.hid hw
                clear hw c0 c1 c2 c3 n0
                go_wp2_with fail
                go_ret
                exact ⟨ret_int (HE6.out (by unfold allWr; exact all_not HN.out (by rw [HX.out, HW.out]))).symm, hB4⟩
              · have HW := Lib.hid hw
                clear hw c0 c1 c2 c3 n0
                go_wp2_with fail
                go_roundw
                case rel => exact ⟨k + 1, by omega, by go_num, all_snoc HA.out HN.out (by rw [HX.out, HW.out]), hB4⟩
                case measure => simp [intOf]; omega
            · go_wp2_with fail
              go_ret
              exact ⟨ret_int (HE0.out (by unfold allWr; exact all_whole HA.out hlt)).symm, hB⟩
      · have HE := Lib.hid (fcC_9 (p := ps) h1 h2 h3)
        have g3 : ((ls.length : Int) != (vs.length : Int)) = true := by rw [bne_iff_ne]; omega
        rw [HE.out]
        clear h1 h2 h3 hp hv
        go_enter Try.func125, Try.ntmps125
        go_wp2_with fail
        refine H1.out.mono ?_
        rintro e w1 ⟨rfl, hB⟩
        go_wp2_with fail
        refine (H2.out _ (hl.below hB (Nat.le_refl _))).mono ?_
        rintro e w2 ⟨rfl, rfl⟩
        go_wp2_with fail
        go_ret
        exact ⟨rfl, hB⟩

end Go.Proofs.Ytdcoebeffbkpnaa

/- Force of the document's answers: contract. -/
set_option linter.unusedVariables false
set_option linter.unusedSimpArgs false
namespace Go.Proofs.Ytdcoebeffbkpnaa
open Go.RowKit Tinker

/-- The code and the state at the end of Force. -/
def fC (p : List L) (s ls vs : List Int) : Int := if vr p s = 0 then fcC p ls vs else vr p s
def fA (p : List L) (s ls vs : List Int) : List Int := if fC p s ls vs = 0 then (tr p (fL ls vs) 0 s).2 else []
theorem fC_vr {p : List L} {s ls vs : List Int} (h : vr p s = 0) : fC p s ls vs = fcC p ls vs := by unfold fC; rw [if_pos h]
theorem fA_no {p : List L} {s ls vs : List Int} (h : fC p s ls vs ≠ 0) : fA p s ls vs = [] := by unfold fA; rw [if_neg h]
theorem fA_yes {p : List L} {s ls vs : List Int} (h : fC p s ls vs = 0) : fA p s ls vs = (tr p (fL ls vs) 0 s).2 := by unfold fA; rw [if_pos h]
theorem fL_okF {p : List L} {ls vs : List Int} (h : fcC p ls vs = 0) : okF p (fL ls vs) := fun i n hn => by
  obtain ⟨_, _, h3, h4, h5⟩ := fcC_ok h
  obtain ⟨j, hj, e1, e2⟩ := fLk_some hn
  obtain ⟨x, hx⟩ := get_of_lt (show j < ls.length by omega)
  obtain ⟨y, hy⟩ := get_of_lt (show j < vs.length by omega)
  rw [getD_of_get hx] at e1
  rw [getD_of_get hy] at e2
  subst e1 e2
  refine ⟨allBtw_at h4 (mem_of_get hy), fun l hl => ?_⟩
  have := List.all_eq_true.1 h5 _ (mem_of_get hx)
  rw [Int.toNat_natCast, getD_of_get hl] at this
  exact this
theorem fA_ok {p : List L} {s ls vs : List Int} (h : fC p s ls vs = 0) : okS (fA p s ls vs) := by
  rw [fA_yes h]
  have hz : vr p s = 0 := by unfold fC at h; split at h <;> assumption
  rw [fC_vr hz] at h
  exact (tr_ok (fL_okF h) _ 0 s (Nat.le_refl _) (vs_ok (vr_ok hz).2)).1
theorem givesRF {p : List L} {s ls vs : List Int} {w w' : World} {c : Int} (h : fC p s ls vs = c) (hc : c ≠ 0) (hB : Below w.heap.size w w') : GivesR (fA p s ls vs) (fC p s ls vs) w (.returned (.tuple #[.slice none 0 0, .int .i64 c])) w' := by
  subst h
  rw [fA_no hc]
  exact givesR_nil hB

end Go.Proofs.Ytdcoebeffbkpnaa
