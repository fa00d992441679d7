/- Several texts in one. -/
import Derived.Test.YtigaklppdlknkaaGreatRefC
import Derived.Test.YtigaklppdlknkaaGreatKnownT
import Derived.IntWalk
/- IsSet of both, validateForced: contracts. -/
set_option linter.unusedVariables false
set_option linter.unusedSimpArgs false
namespace Go.Proofs.YtigaklppdlknkaaGreat
open Go.RowKit Tinker

/-- The first numbers are strictly ascending. -/
def AscTo (l : List Int) (k : Nat) : Prop := ∀ i, i < k → i + 1 < l.length → l.getD i 0 < l.getD (i + 1) 0
theorem ascTo_zero (l : List Int) : AscTo l 0 := fun i hi => by omega
theorem ascTo_succ {l : List Int} {k : Nat} {x y : Int} (h : AscTo l k) (hx : l[k]? = some x) (hy : l[k + 1]? = some y) (hxy : x < y) : AscTo l (k + 1) := fun i hi h1 => by
  rcases Nat.lt_or_ge i k with h2 | h2
  · exact h i h2 h1
  · have : i = k := by omega
    subst this
    rw [getD_of_get hx, getD_of_get hy]; exact hxy
theorem isSetB_yes {l : List Int} {k : Nat} (h : AscTo l k) (hk : l.length ≤ k + 1) : isSetB l = true := (isSetB_iff l).2 fun i hi => h i (by omega) hi
theorem isSetB_no {l : List Int} {k : Nat} {x y : Int} (hx : l[k]? = some x) (hy : l[k + 1]? = some y) (hxy : y ≤ x) : isSetB l = false := by
  rw [Bool.eq_false_iff]; intro h
  have := (isSetB_iff l).1 h k (List.getElem?_eq_some_iff.1 hy).1
  rw [getD_of_get hx, getD_of_get hy] at this
  omega

set_option maxHeartbeats 400000 in
theorem rIsSet_any (a : Option Addr) (cap : Nat) (zs : List Int) (w : World) (hz : IntsAt w a zs) (hm : zs.length ≤ 1000) :
    Calls Tryz.prog 126 #[.slice a zs.length cap] w fun e w' => e = .returned (.bool (isSetB zs)) ∧ Below w.heap.size w w' := by
  go_enter Tryz.func126, Tryz.ntmps126
  go_wp2_with fail
  go_loopw [3] (fun i wr => ∃ k : Nat, k ≤ zs.length ∧ i = .int .i64 ((k : Int) + 1) ∧ AscTo zs k ∧ Below w.heap.size w wr) (fun i _ => (zs.length + 1 - intOf i).toNat)
  case atStart => exact ⟨0, Nat.zero_le _, rfl, ascTo_zero _, Below.refl _ _⟩
  case round =>
    obtain ⟨k, hk, rfl, hall, hB⟩ := hrel
    have HA := Lib.hid hall
    clear hall
    by_cases hlt : k + 1 < zs.length
    · obtain ⟨b, off, x, rfl, hlb, hx, h0⟩ := (hz.below hB (Nat.le_refl _)).at_ (show k < zs.length by omega)
      obtain ⟨b', off', y, e', _, hy, h1⟩ := (hz.below hB (Nat.le_refl _)).at_ hlt
      injection e' with e'
      injection e' with e1 e2
      subst e1 e2
      have HX := Lib.hid hx
      have HY := Lib.hid hy
      clear hx hy hz
      have g0 : (0 : Int) ≤ (k : Int) := by omega
      have g1 : (k : Int) + 1 < (zs.length : Int) := by omega
      have g2 : ((k : Int) + 1).toNat = k + 1 := by omega
      have g3 : IntKind.i64.wrap ((k : Int) + 1 - 1) = (k : Int) := by rw [IntWalk.i64_in _ (by omega)]; omega
      by_cases hxy : x < y
      · have hxy2 : decide (y ≤ x) = false := by simp; omega
        have HN := Lib.hid hxy
        clear hxy
        go_wp2_with fail
        go_quiet (fail)
        clear g2 g3
        go_wp2_with fail
        go_roundw
        case rel => exact ⟨k + 1, by omega, by go_num, ascTo_succ HA.out HX.out HY.out HN.out, hB.trans (Below.mono ⟨rfl, rfl, rfl, Nat.le_refl _, fun _ _ => rfl⟩ hB.size)⟩
        case measure => simp [intOf]; omega
      · have hxy2 : decide (y ≤ x) = true := by simp; omega
        have HN := Lib.hid hxy
        clear hxy
        go_wp2_with fail
        go_quiet (fail)
        clear g2 g3
        go_wp2_with fail
        go_ret
        exact ⟨ret_bool (isSetB_no HX.out HY.out HN.out).symm, hB.trans (Below.mono ⟨rfl, rfl, rfl, Nat.le_refl _, fun _ _ => rfl⟩ hB.size)⟩
    · go_wp2_with fail
      go_ret
      exact ⟨ret_bool (isSetB_yes HA.out (by omega)).symm, hB⟩

set_option maxHeartbeats 400000 in
theorem kIsSet_any (a : Option Addr) (cap : Nat) (zs : List Int) (w : World) (hz : IntsAt w a zs) (hm : zs.length ≤ 1000) :
    Calls Tryz.prog 121 #[.slice a zs.length cap] w fun e w' => e = .returned (.bool (isSetB zs)) ∧ Below w.heap.size w w' := by
  go_enter Tryz.func121, Tryz.ntmps121
  go_wp2_with fail
  go_loopw [3] (fun i wr => ∃ k : Nat, k ≤ zs.length ∧ i = .int .i64 ((k : Int) + 1) ∧ AscTo zs k ∧ Below w.heap.size w wr) (fun i _ => (zs.length + 1 - intOf i).toNat)
  case atStart => exact ⟨0, Nat.zero_le _, rfl, ascTo_zero _, Below.refl _ _⟩
  case round =>
    obtain ⟨k, hk, rfl, hall, hB⟩ := hrel
    have HA := Lib.hid hall
    clear hall
    by_cases hlt : k + 1 < zs.length
    · obtain ⟨b, off, x, rfl, hlb, hx, h0⟩ := (hz.below hB (Nat.le_refl _)).at_ (show k < zs.length by omega)
      obtain ⟨b', off', y, e', _, hy, h1⟩ := (hz.below hB (Nat.le_refl _)).at_ hlt
      injection e' with e'
      injection e' with e1 e2
      subst e1 e2
      have HX := Lib.hid hx
      have HY := Lib.hid hy
      clear hx hy hz
      have g0 : (0 : Int) ≤ (k : Int) := by omega
      have g1 : (k : Int) + 1 < (zs.length : Int) := by omega
      have g2 : ((k : Int) + 1).toNat = k + 1 := by omega
      have g3 : IntKind.i64.wrap ((k : Int) + 1 - 1) = (k : Int) := by rw [IntWalk.i64_in _ (by omega)]; omega
      by_cases hxy : x < y
      · have hxy2 : decide (y ≤ x) = false := by simp; omega
        have HN := Lib.hid hxy
        clear hxy
        go_wp2_with fail
        go_quiet (fail)
        clear g2 g3
        go_wp2_with fail
        go_roundw
        case rel => exact ⟨k + 1, by omega, by go_num, ascTo_succ HA.out HX.out HY.out HN.out, hB.trans (Below.mono ⟨rfl, rfl, rfl, Nat.le_refl _, fun _ _ => rfl⟩ hB.size)⟩
        case measure => simp [intOf]; omega
      · have hxy2 : decide (y ≤ x) = true := by simp; omega
        have HN := Lib.hid hxy
        clear hxy
        go_wp2_with fail
        go_quiet (fail)
        clear g2 g3
        go_wp2_with fail
        go_ret
        exact ⟨ret_bool (isSetB_no HX.out HY.out HN.out).symm, hB.trans (Below.mono ⟨rfl, rfl, rfl, Nat.le_refl _, fun _ _ => rfl⟩ hB.size)⟩
    · go_wp2_with fail
      go_ret
      exact ⟨ret_bool (isSetB_yes HA.out (by omega)).symm, hB⟩

/-- The errors of what is forced. -/
def allWr (p : List L) (ls : List Int) : Bool := ls.all fun n => Tinker.wr (p.getD n.toNat ⟨0, 0, 0, 0⟩)
def fcC (p : List L) (ls vs : List Int) : Int :=
  if isSetB ls = false then 1 else if allBtw ls 0 ((p.length : Int) - 1) = false then 4 else if ls.length ≠ vs.length then 9 else if allBtw vs (-999) 999 = false then 1 else if allWr p ls = false then 6 else 0
theorem fcC_1 {p : List L} {ls vs : List Int} (h1 : isSetB ls = false) : fcC p ls vs = 1 := by unfold fcC; rw [if_pos h1]
theorem fcC_4 {p : List L} {ls vs : List Int} (h1 : isSetB ls = true) (h2 : allBtw ls 0 ((p.length : Int) - 1) = false) : fcC p ls vs = 4 := by unfold fcC; rw [if_neg (by simp [h1]), if_pos h2]
theorem fcC_9 {p : List L} {ls vs : List Int} (h1 : isSetB ls = true) (h2 : allBtw ls 0 ((p.length : Int) - 1) = true) (h3 : ls.length ≠ vs.length) : fcC p ls vs = 9 := by unfold fcC; rw [if_neg (by simp [h1]), if_neg (by simp [h2]), if_pos h3]
theorem fcC_1' {p : List L} {ls vs : List Int} (h1 : isSetB ls = true) (h2 : allBtw ls 0 ((p.length : Int) - 1) = true) (h3 : ls.length = vs.length) (h4 : allBtw vs (-999) 999 = false) : fcC p ls vs = 1 := by unfold fcC; rw [if_neg (by simp [h1]), if_neg (by simp [h2]), if_neg (by omega), if_pos h4]
theorem fcC_6 {p : List L} {ls vs : List Int} (h1 : isSetB ls = true) (h2 : allBtw ls 0 ((p.length : Int) - 1) = true) (h3 : ls.length = vs.length) (h4 : allBtw vs (-999) 999 = true) (h5 : allWr p ls = false) : fcC p ls vs = 6 := by unfold fcC; rw [if_neg (by simp [h1]), if_neg (by simp [h2]), if_neg (by omega), if_neg (by simp [h4]), if_pos h5]
theorem fcC_0 {p : List L} {ls vs : List Int} (h1 : isSetB ls = true) (h2 : allBtw ls 0 ((p.length : Int) - 1) = true) (h3 : ls.length = vs.length) (h4 : allBtw vs (-999) 999 = true) (h5 : allWr p ls = true) : fcC p ls vs = 0 := by unfold fcC; rw [if_neg (by simp [h1]), if_neg (by simp [h2]), if_neg (by omega), if_neg (by simp [h4]), if_neg (by simp [h5])]
theorem fcC_ok {p : List L} {ls vs : List Int} (h : fcC p ls vs = 0) : isSetB ls = true ∧ allBtw ls 0 ((p.length : Int) - 1) = true ∧ ls.length = vs.length ∧ allBtw vs (-999) 999 = true ∧ allWr p ls = true := by
  unfold fcC at h
  split at h
  · cases h
  · split at h
    · cases h
    · split at h
      · cases h
      · split at h
        · cases h
        · split at h
          · cases h
          · rename_i h1 h2 h3 h4 h5
            exact ⟨by simpa using h1, by simpa using h2, by omega, by simpa using h4, by simpa using h5⟩
theorem allBtw_at {l : List Int} {lo hi : Int} (h : allBtw l lo hi = true) {n : Int} (hn : n ∈ l) : lo ≤ n ∧ n ≤ hi := btw_true.1 (List.all_eq_true.1 h n hn)

set_option maxRecDepth 100000 in
set_option maxHeartbeats 1000000 in
theorem validateForced_any (a b c : Option Addr) (ca cb cc : Nat) (ps : List L) (ls vs : List Int) (w : World) (hp : LinesAt w a ps) (hl : IntsAt w b ls) (hv : IntsAt w c vs) (h8 : ps.length ≤ 8) (hli : ∀ l ∈ ps, isLn l = true) (hm : ls.length ≤ 1000) (hm2 : vs.length ≤ 1000) :
    Calls Tryz.prog 164 #[.slice a ps.length ca, .slice b ls.length cb, .slice c vs.length cc] w fun e w' => e = .returned (.int .i64 (fcC ps ls vs)) ∧ Below w.heap.size w w' := by
  have H1 := Lib.hid (kIsSet_any b cb ls w hl hm)
  have H2 := Lib.hid (fun w hl => areBetween_any b cb ls 0 ((ps.length : Int) - 1) w hl (by omega))
  have H4 := Lib.hid (fun w hv => areBetween_any c cc vs (-999) 999 w hv (by omega))
  have g1 : (0 : Int) ≤ (ps.length : Int) := by omega
  have g2 : (ps.length : Int) ≤ 8 := by omega
  cases h1 : isSetB ls
  · have HE := Lib.hid (fcC_1 (p := ps) (vs := vs) h1)
    rw [HE.out]
    rw [h1] at H1
    clear h1 hp hl hv
    go_enter Tryz.func164, Tryz.ntmps164
    go_wp2_with fail
    refine H1.out.mono ?_
    rintro e w1 ⟨rfl, hB⟩
    go_wp2_with fail
    go_ret
    exact ⟨rfl, hB⟩
  · rw [h1] at H1
    cases h2 : allBtw ls 0 ((ps.length : Int) - 1)
    · have HE := Lib.hid (fcC_4 (p := ps) (vs := vs) h1 h2)
      rw [HE.out]
      rw [h2] at H2
      clear h1 h2 hp hv
      go_enter Tryz.func164, Tryz.ntmps164
      go_wp2_with fail
      refine H1.out.mono ?_
      rintro e w1 ⟨rfl, hB⟩
      go_wp2_with fail
      refine (H2.out _ (hl.below hB (Nat.le_refl _))).mono ?_
      rintro e w2 ⟨rfl, rfl⟩
      go_wp2_with fail
      go_ret
      exact ⟨rfl, hB⟩
    · rw [h2] at H2
      by_cases h3 : ls.length = vs.length
      · have g3 : ((ls.length : Int) != (vs.length : Int)) = false := by rw [h3]; simp
        cases h4 : allBtw vs (-999) 999
        · have HE := Lib.hid (fcC_1' (p := ps) h1 h2 h3 h4)
          rw [HE.out]
          rw [h4] at H4
          clear h1 h2 h3 h4 hp
          go_enter Tryz.func164, Tryz.ntmps164
          go_wp2_with fail
          refine H1.out.mono ?_
          rintro e w1 ⟨rfl, hB⟩
          go_wp2_with fail
          refine (H2.out _ (hl.below hB (Nat.le_refl _))).mono ?_
          rintro e w2 ⟨rfl, rfl⟩
          go_wp2_with fail
          refine (H4.out _ (hv.below hB (Nat.le_refl _))).mono ?_
          rintro e w2 ⟨rfl, rfl⟩
          go_wp2_with fail
          go_ret
          exact ⟨rfl, hB⟩
        · rw [h4] at H4
          have HE6 := Lib.hid (fun h5 => fcC_6 (p := ps) h1 h2 h3 h4 h5)
          have HE0 := Lib.hid (fun h5 => fcC_0 (p := ps) h1 h2 h3 h4 h5)
          have HBt := Lib.hid (fun n hn => allBtw_at h2 (n := n) hn)
          clear h1 h2 h3 h4
          go_enter Tryz.func164, Tryz.ntmps164
          go_wp2_with fail
          refine H1.out.mono ?_
          rintro e w1 ⟨rfl, hB⟩
          go_wp2_with fail
          refine (H2.out _ (hl.below hB (Nat.le_refl _))).mono ?_
          rintro e w2 ⟨rfl, rfl⟩
          go_wp2_with fail
          refine (H4.out _ (hv.below hB (Nat.le_refl _))).mono ?_
          rintro e w2 ⟨rfl, rfl⟩
          go_wp2_with fail
          go_loopw [32] (fun s32 wr => ∃ k : Nat, k ≤ ls.length ∧ s32 = .int .i64 k ∧ (ls.take k).all (fun n => Tinker.wr (ps.getD n.toNat ⟨0, 0, 0, 0⟩)) = true ∧ Below w.heap.size w wr) (fun s32 _ => ls.length - (intOf s32).toNat)
          case atStart => exact ⟨0, Nat.zero_le _, rfl, by simp, hB⟩
          case round =>
            clear hB
            obtain ⟨k, hk, rfl, hall, hB⟩ := hrel
            have HA := Lib.hid hall
            clear hall
            by_cases hlt : k < ls.length
            · obtain ⟨lb, lo, n, rfl, hlb, hn, n0⟩ := (hl.below hB (Nat.le_refl _)).at_ hlt
              obtain ⟨q0, q1⟩ := HBt.out n (mem_of_get hn)
              obtain ⟨pb, po, l, rfl, hpb, hl', c0, c1, c2, c3⟩ := (hp.below hB (Nat.le_refl _)).at_ (show n.toNat < ps.length by omega)
              have hln := hli l (mem_of_get hl')
              have q2 : n < 8 := by omega
              have HN := Lib.hid hn
              have HX := Lib.hid (show Tinker.wr (ps.getD n.toNat ⟨0, 0, 0, 0⟩) = Tinker.wr l by rw [getD_of_get hl'])
              clear hn hl' hl hp
              go_wp2_with fail
              refine (writes_any l _ hln).mono ?_
              rintro e w3 ⟨rfl, hB3⟩
              have hB4 := hB.trans (hB3.mono hB.size)
              cases hw : Tinker.wr l
              · have HW := Lib.hid hw
                clear hw c0 c1 c2 c3 n0
                go_wp2_with fail
                go_ret
                exact ⟨ret_int (HE6.out (by unfold allWr; exact all_not HN.out (by rw [HX.out, HW.out]))).symm, hB4⟩
              · have HW := Lib.hid hw
                clear hw c0 c1 c2 c3 n0
                go_wp2_with fail
                go_roundw
                case rel => exact ⟨k + 1, by omega, by go_num, all_snoc HA.out HN.out (by rw [HX.out, HW.out]), hB4⟩
                case measure => simp [intOf]; omega
            · go_wp2_with fail
              go_ret
              exact ⟨ret_int (HE0.out (by unfold allWr; exact all_whole HA.out hlt)).symm, hB⟩
      · have HE := Lib.hid (fcC_9 (p := ps) h1 h2 h3)
        have g3 : ((ls.length : Int) != (vs.length : Int)) = true := by rw [bne_iff_ne]; omega
        rw [HE.out]
        clear h1 h2 h3 hp hv
        go_enter Tryz.func164, Tryz.ntmps164
        go_wp2_with fail
        refine H1.out.mono ?_
        rintro e w1 ⟨rfl, hB⟩
        go_wp2_with fail
        refine (H2.out _ (hl.below hB (Nat.le_refl _))).mono ?_
        rintro e w2 ⟨rfl, rfl⟩
        go_wp2_with fail
        go_ret
        exact ⟨rfl, hB⟩

end Go.Proofs.YtigaklppdlknkaaGreat

/- Force of the document's answers: contract. -/
set_option linter.unusedVariables false
set_option linter.unusedSimpArgs false
namespace Go.Proofs.YtigaklppdlknkaaGreat
open Go.RowKit Tinker

/-- The code and the state at the end of Force. -/
def fC (p : List L) (s ls vs : List Int) : Int := if vr p s = 0 then fcC p ls vs else vr p s
def fA (p : List L) (s ls vs : List Int) : List Int := if fC p s ls vs = 0 then (tr p (fL ls vs) 0 s).2 else []
theorem fC_vr {p : List L} {s ls vs : List Int} (h : vr p s = 0) : fC p s ls vs = fcC p ls vs := by unfold fC; rw [if_pos h]
theorem fA_no {p : List L} {s ls vs : List Int} (h : fC p s ls vs ≠ 0) : fA p s ls vs = [] := by unfold fA; rw [if_neg h]
theorem fA_yes {p : List L} {s ls vs : List Int} (h : fC p s ls vs = 0) : fA p s ls vs = (tr p (fL ls vs) 0 s).2 := by unfold fA; rw [if_pos h]
theorem fL_okF {p : List L} {ls vs : List Int} (h : fcC p ls vs = 0) : okF p (fL ls vs) := fun i n hn => by
  obtain ⟨_, _, h3, h4, h5⟩ := fcC_ok h
  obtain ⟨j, hj, e1, e2⟩ := fLk_some hn
  obtain ⟨x, hx⟩ := get_of_lt (show j < ls.length by omega)
  obtain ⟨y, hy⟩ := get_of_lt (show j < vs.length by omega)
  rw [getD_of_get hx] at e1
  rw [getD_of_get hy] at e2
  subst e1 e2
  refine ⟨allBtw_at h4 (mem_of_get hy), fun l hl => ?_⟩
  have := List.all_eq_true.1 h5 _ (mem_of_get hx)
  rw [Int.toNat_natCast, getD_of_get hl] at this
  exact this
theorem fA_ok {p : List L} {s ls vs : List Int} (h : fC p s ls vs = 0) : okS (fA p s ls vs) := by
  rw [fA_yes h]
  have hz : vr p s = 0 := by unfold fC at h; split at h <;> assumption
  rw [fC_vr hz] at h
  exact (tr_ok (fL_okF h) _ 0 s (Nat.le_refl _) (vs_ok (vr_ok hz).2)).1
theorem givesRF {p : List L} {s ls vs : List Int} {w w' : World} {c : Int} (h : fC p s ls vs = c) (hc : c ≠ 0) (hB : Below w.heap.size w w') : GivesR (fA p s ls vs) (fC p s ls vs) w (.returned (.tuple #[.slice none 0 0, .int .i64 c])) w' := by
  subst h
  rw [fA_no hc]
  exact givesR_nil hB

set_option maxRecDepth 100000 in
set_option maxHeartbeats 4000000 in
theorem rForce_any (a b c d : Option Addr) (ca cb cc cd : Nat) (ps : List L) (s ls vs : List Int) (w : World) (hp : LinesAt w a ps) (hs : IntsAt w b s) (hl : IntsAt w c ls) (hv : IntsAt w d vs) (hm : ls.length ≤ 1000) (hm2 : vs.length ≤ 1000) :
    Calls Tryz.prog 174 #[.slice a ps.length ca, .slice b s.length cb, .slice c ls.length cc, .slice d vs.length cd] w (GivesR (fA ps s ls vs) (fC ps s ls vs) w) := by
  have HV := Lib.hid (asked_any a b ca cb ps s w hp hs)
  by_cases hz : vr ps s = 0
  · have h8 := (vp_ok (vr_ok hz).1).1
    have hli := (vp_ok (vr_ok hz).1).2
    have hok := vs_ok (vr_ok hz).2
    have HZ := Lib.hid hz
    have HF := Lib.hid (fC_vr (ls := ls) (vs := vs) hz)
    have HI := Lib.hid (fun w hl => rIsSet_any c cc ls w hl hm)
    have HT := Lib.hid (fun w hp hs hl hv => trace_any a b c d ca cb cc cd ps s ls vs w hp hs hl hv h8 hli hok)
    have HOK := Lib.hid (fun h => fA_ok (p := ps) (s := s) (ls := ls) (vs := vs) h)
    rw [show ((4 : Nat)) = s.length from hok.1.symm] at HT
    have HT2 := Lib.hid (fun w hp hs hl hv (hn : vs.length = ls.length) hbd => show Calls Tryz.prog 206 #[.slice a ps.length ca, .slice b s.length cb, .slice c ls.length cc, .slice d vs.length cd] w (GivesTrace (tr ps (fL ls vs) 0 s).1 (tr ps (fL ls vs) 0 s).2 w) by
      rw [hn]; exact HT.out w hp hs hl hv hn hbd hm)
    clear hz hok HT
    cases h1 : isSetB ls
    · have HE := Lib.hid (HF.out.trans (fcC_1 (p := ps) (vs := vs) h1))
      rw [h1] at HI
      clear h1 hp hs hv
      go_enter Tryz.func174, Tryz.ntmps174
      go_wp2_with fail
      refine HV.out.mono ?_
      rintro e w1 ⟨rfl, hB1⟩
      rw [HZ.out]
      go_wp2_with fail
      refine (HI.out _ (hl.below hB1 (Nat.le_refl _))).mono ?_
      rintro e w2 ⟨rfl, hB2⟩
      have hB3 := hB1.trans (hB2.mono hB1.size)
      go_wp2_with fail
      go_ret2
      exact givesRF HE.out (by decide) hB3
    · have H1 := Lib.hid h1
      rw [h1] at HI
      clear h1
      have g1 : (0 : Int) ≤ (ps.length : Int) := by omega
      have g2 : (ps.length : Int) ≤ 8 := by omega
      go_enter Tryz.func174, Tryz.ntmps174
      go_wp2_with fail
      refine HV.out.mono ?_
      rintro e w1 ⟨rfl, hB1⟩
      rw [HZ.out]
      go_wp2_with fail
      refine (HI.out _ (hl.below hB1 (Nat.le_refl _))).mono ?_
      rintro e w2 ⟨rfl, hB2⟩
      have hB := hB1.trans (hB2.mono hB1.size)
      clear hB1 hB2
      replace hp := hp.below hB (Nat.le_refl _)
      replace hs := hs.below hB (Nat.le_refl _)
      replace hl := hl.below hB (Nat.le_refl _)
      replace hv := hv.below hB (Nat.le_refl _)
      go_wp2_with fail
      go_loop [11] (fun s11 => ∃ k : Nat, k ≤ ls.length ∧ s11 = .int .i64 k ∧ (ls.take k).all (btw · 0 ((ps.length : Int) - 1)) = true) (fun s11 => ls.length - (intOf s11).toNat)
      case atStart => exact ⟨0, Nat.zero_le _, rfl, by simp⟩
      case round =>
        obtain ⟨k, hk, rfl, hall⟩ := hrel
        have HA := Lib.hid hall
        clear hall
        by_cases hlt : k < ls.length
        · obtain ⟨lb, lo, n, rfl, hlb, hn, n0⟩ := hl.at_ hlt
          have HN := Lib.hid hn
          clear hn
          cases hb : btw n 0 ((ps.length : Int) - 1)
          · have HX := Lib.hid hb
            have HW := Lib.hid (fun w => within_any n 0 ((ps.length : Int) - 1) w)
            rw [hb] at HW
            clear hb
            go_wp2_with (go_at_call 177; refine (HW.out _).mono ?_; rintro e w' ⟨rfl, rfl⟩)
            go_ret2
            exact givesRF (HF.out.trans (fcC_4 H1.out (by unfold allBtw; exact all_not HN.out HX.out))) (by decide) hB
          · have HX := Lib.hid hb
            have HW := Lib.hid (fun w => within_any n 0 ((ps.length : Int) - 1) w)
            rw [hb] at HW
            clear hb
            go_wp2_with (go_at_call 177; refine (HW.out _).mono ?_; rintro e w' ⟨rfl, rfl⟩)
            go_round
            case rel => exact ⟨k + 1, by omega, by go_num, all_snoc HA.out HN.out HX.out⟩
            case measure => simp [intOf]; omega
        · have H2 := Lib.hid (show allBtw ls 0 ((ps.length : Int) - 1) = true by unfold allBtw; exact all_whole HA.out hlt)
          clear HA
          by_cases h3 : ls.length = vs.length
          · have g3 : ((vs.length : Int) != (ls.length : Int)) = false := by rw [h3]; simp
            have H3 := Lib.hid h3
            clear h3
            go_wp2_with fail
            go_loop [12] (fun s12 => ∃ k : Nat, k ≤ vs.length ∧ s12 = .int .i64 k ∧ (vs.take k).all (btw · (-999) 999) = true) (fun s12 => vs.length - (intOf s12).toNat)
            case atStart => exact ⟨0, Nat.zero_le _, rfl, by simp⟩
            case round =>
              obtain ⟨k2, hk2, rfl, hall⟩ := hrel
              have HA := Lib.hid hall
              clear hall
              by_cases hlt : k2 < vs.length
              · obtain ⟨lb, lo, n, rfl, hlb, hn, n0⟩ := hv.at_ hlt
                have HN := Lib.hid hn
                clear hn
                cases hb : btw n (-999) 999
                · have HX := Lib.hid hb
                  have HW := Lib.hid (fun w => within_any n (-999) 999 w)
                  rw [hb] at HW
                  clear hb
                  go_wp2_with (go_at_call 177; refine (HW.out _).mono ?_; rintro e w' ⟨rfl, rfl⟩)
                  go_ret2
                  exact givesRF (HF.out.trans (fcC_1' H1.out H2.out H3.out (by unfold allBtw; exact all_not HN.out HX.out))) (by decide) hB
                · have HX := Lib.hid hb
                  have HW := Lib.hid (fun w => within_any n (-999) 999 w)
                  rw [hb] at HW
                  clear hb
                  go_wp2_with (go_at_call 177; refine (HW.out _).mono ?_; rintro e w' ⟨rfl, rfl⟩)
                  go_round
                  case rel => exact ⟨k2 + 1, by omega, by go_num, all_snoc HA.out HN.out HX.out⟩
                  case measure => simp [intOf]; omega
              · have H4 := Lib.hid (show allBtw vs (-999) 999 = true by unfold allBtw; exact all_whole HA.out hlt)
                clear HA
                go_wp2_with fail
                go_loopw [13] (fun s13 wr => ∃ k : Nat, k ≤ ls.length ∧ s13 = .int .i64 k ∧ (ls.take k).all (fun n => Tinker.wr (ps.getD n.toNat ⟨0, 0, 0, 0⟩)) = true ∧ Below w.heap.size w wr ∧ Below w2.heap.size w2 wr) (fun s13 _ => ls.length - (intOf s13).toNat)
                case atStart => exact ⟨0, Nat.zero_le _, rfl, by simp, hB, Below.refl _ _⟩
                case round =>
                  obtain ⟨k3, hk3, rfl, hall, hBw, hB2⟩ := hrel
                  have HA := Lib.hid hall
                  clear hall
                  by_cases hlt : k3 < ls.length
                  · obtain ⟨lb, lo, n, rfl, hlb, hn, n0⟩ := (hl.below hB2 (Nat.le_refl _)).at_ hlt
                    obtain ⟨q0, q1⟩ := allBtw_at H2.out (mem_of_get hn)
                    obtain ⟨pb, po, l, rfl, hpb, hl', c0, c1, c2, c3⟩ := (hp.below hB2 (Nat.le_refl _)).at_ (show n.toNat < ps.length by omega)
                    have q2 : n < 8 := by omega
                    have HN := Lib.hid hn
                    have HX := Lib.hid (show Tinker.wr (ps.getD n.toNat ⟨0, 0, 0, 0⟩) = Tinker.wr l by rw [getD_of_get hl'])
                    clear hn hl'
                    go_wp2_with fail
                    refine (rWrites_any l _).mono ?_
                    rintro e w3 ⟨rfl, hB3⟩
                    have hB4 := hBw.trans (hB3.mono hBw.size)
                    have hB5 := hB2.trans (hB3.mono hB2.size)
                    cases hw : Tinker.wr l
                    · have HW := Lib.hid hw
                      clear hw c0 c1 c2 c3 n0
                      go_wp2_with fail
                      go_ret2
                      exact givesRF (HF.out.trans (fcC_6 H1.out H2.out H3.out H4.out (by unfold allWr; exact all_not HN.out (by rw [HX.out, HW.out])))) (by decide) hB4
                    · have HW := Lib.hid hw
                      clear hw c0 c1 c2 c3 n0
                      go_wp2_with fail
                      go_roundw
                      case rel => exact ⟨k3 + 1, by omega, by go_num, all_snoc HA.out HN.out (by rw [HX.out, HW.out]), hB4, hB5⟩
                      case measure => simp [intOf]; omega
                  · have HE := Lib.hid (HF.out.trans (fcC_0 H1.out H2.out H3.out H4.out (by unfold allWr; exact all_whole HA.out hlt)))
                    have HE2 := Lib.hid (fA_yes HE.out)
                    have H44 := Lib.hid (HOK.out HE.out).1
                    clear HA
                    go_wp2_with fail
                    refine (HT2.out _ (hp.below hB2 (Nat.le_refl _)) (hs.below hB2 (Nat.le_refl _)) (hl.below hB2 (Nat.le_refl _)) (hv.below hB2 (Nat.le_refl _)) H3.out.symm (fun n hn => allBtw_at H4.out hn)).mono ?_
                    intro e w4 hG
                    obtain ⟨a1, c1, b1, cb1, rfl, _, hbi, _, hB6⟩ := hG
                    have hB7 := hBw.trans (hB6.mono hBw.size)
                    have HBI := Lib.hid hbi
                    clear hbi
                    go_wp2_with fail
                    go_ret2
                    exact ⟨_, _, by rw [H44.out, HE.out]; rfl, by rw [HE2.out]; exact HBI.out.at_, hB7⟩
          · have g3 : ((vs.length : Int) != (ls.length : Int)) = true := by rw [bne_iff_ne]; omega
            have H3 := Lib.hid h3
            clear h3
            go_wp2_with fail
            go_ret2
            exact givesRF (HF.out.trans (fcC_9 H1.out H2.out H3.out)) (by decide) hB
  · have HE := Lib.hid (show fC ps s ls vs = vr ps s by unfold fC; rw [if_neg hz])
    generalize vr ps s = c0 at HV hz HE
    have hz1 : (c0 != 0) = true := by simpa using hz
    have hz2 : (c0 == 0) = false := by simpa using hz
    have HN := Lib.hid hz
    clear hz hp hs hl hv
    go_enter Tryz.func174, Tryz.ntmps174
    go_wp2_with fail
    refine HV.out.mono ?_
    rintro e w1 ⟨rfl, hB1⟩
    go_wp2_with fail
    go_ret2
    exact givesRF HE.out HN.out hB1

end Go.Proofs.YtigaklppdlknkaaGreat
