/- slices.DeleteFunc on lines, at the closure of seek.others. -/
import Derived.Test.YtfmheeboogffeaaDlI
import Derived.Test.YtfmheeboogffeaaEqL
import Derived.Test.YtfmheeboogffeaaSkB
import Derived.Test.YtfmheeboogffeaaPtY
set_option linter.unusedVariables false
set_option linter.unusedSimpArgs false
namespace Go.Proofs.Ytfmheeboogffeaa
open Go.RowKit Tinker

set_option maxHeartbeats 400000 in
theorem others1_any (P : Nat) (l x : L) (w : World) (hP : w.heap[P]? = some (.cells (lV l) 23 (0, 0))) :
    Calls Try.prog 47 #[lv x, .pointer (some ⟨P, 0, none⟩)] w fun e w' => e = .returned (.bool (eqL x l || !isLn x)) ∧ Below w.heap.size w w' := by
  have HV := Lib.hid (fun w => validateLine_any x w)
  obtain ⟨c0, c1, c2, c3⟩ := boxL_cells hP
  have hPl := hp_lt hP
  have HB0 := Lib.hid (show Below w.heap.size w (w.alloc (.cells #[.int .i64 x.op, .int .i64 x.to, .int .i64 x.a, .int .i64 x.b] 23)) from (Below.refl _ _).alloc (Nat.le_refl _) _)
  clear hP
  unfold lv at HV ⊢
  cases hq : eqL x l
  · cases hv : isLn x
    · rw [show vl x = 1 by unfold vl; rw [hv]; rfl] at HV
      have HNE := Lib.hid (ne_facts hq)
      clear hv hq
      rcases HNE.out with h1 | ⟨h1, h2⟩ | ⟨h1, h2, h3⟩ | ⟨h1, h2, h3, h4⟩
      all_goals
        clear HNE
        go_enter Try.func47, Try.ntmps47
        go_wp2_with fail
        refine (HV.out _).mono ?_
        rintro e w1 ⟨rfl, hB⟩
        go_wp2_with fail
        go_ret
        exact ⟨rfl, HB0.out.trans (hB.mono HB0.out.size)⟩
    · rw [show vl x = 0 by unfold vl; rw [hv]; rfl] at HV
      have HNE := Lib.hid (ne_facts hq)
      clear hv hq
      rcases HNE.out with h1 | ⟨h1, h2⟩ | ⟨h1, h2, h3⟩ | ⟨h1, h2, h3, h4⟩
      all_goals
        clear HNE
        go_enter Try.func47, Try.ntmps47
        go_wp2_with fail
        refine (HV.out _).mono ?_
        rintro e w1 ⟨rfl, hB⟩
        go_wp2_with fail
        go_ret
        exact ⟨rfl, HB0.out.trans (hB.mono HB0.out.size)⟩
  · have HLE := Lib.hid (eqL_iff.1 hq)
    have y1 : (x.op == l.op) = true := by rw [HLE.out]; simp
    have y2 : (x.to == l.to) = true := by rw [HLE.out]; simp
    have y3 : (x.a == l.a) = true := by rw [HLE.out]; simp
    have y4 : (x.b == l.b) = true := by rw [HLE.out]; simp
    clear hq HV
    go_enter Try.func47, Try.ntmps47
    go_wp2_with fail
    go_ret
    exact ⟨rfl, HB0.out⟩

set_option maxRecDepth 100000 in
set_option maxHeartbeats 1000000 in
theorem idxOt_any (P : Nat) (F : L → Bool) (a : Option Addr) (c : Nat) (zs : List L) (w : World) (hz : LinesAt w a zs) (hm : zs.length ≤ 1000)
    (hC : ∀ W, Below w.heap.size w W → ∀ n, Calls Try.prog 47 #[lv n, .pointer (some ⟨P, 0, none⟩)] W fun e w' => e = .returned (.bool (F n)) ∧ Below W.heap.size W w') :
    Calls Try.prog 64 #[.slice a zs.length c, .func (.func 47) #[] #[.pointer (some ⟨P, 0, none⟩)]] w fun e w' => e = .returned (.int .i64 (idxF F zs)) ∧ Below w.heap.size w w' := by
  have HC := Lib.hid hC
  have HZ := Lib.hid hz
  clear hC hz
  unfold lv at HC
  go_enter Try.func64, Try.ntmps64
  go_wp2_with fail
  go_loopw [8] (fun s8 wr => ∃ k : Nat, k ≤ zs.length ∧ s8 = .int .i64 k ∧ (zs.take k).all (fun x => !F x) = true ∧ Below w.heap.size w wr) (fun s8 _ => zs.length - (intOf s8).toNat)
  case atStart => exact ⟨0, Nat.zero_le _, rfl, by simp, Below.refl _ _⟩
  case round =>
    obtain ⟨k, hk, rfl, hall, hB⟩ := hrel
    have HA := Lib.hid hall
    have HB := Lib.hid hB
    clear hall hB
    by_cases hlt : k < zs.length
    · obtain ⟨b, off, x, rfl, hlb, hx, c0, c1, c2, c3⟩ := (HZ.out.below HB.out (Nat.le_refl _)).at_ hlt
      have HX := Lib.hid hx
      have HF := Lib.hid (HC.out wr HB.out x)
      clear hx
      cases hn : F x
      · have HN := Lib.hid (all_snoc (f := fun x => !F x) HA.out HX.out (by simpa using hn))
        rw [hn] at HF
        clear hn
        go_wp2_with fail
        refine HF.out.mono ?_
        rintro e w1 ⟨rfl, hB1⟩
        have HB1 := Lib.hid (HB.out.trans (hB1.mono HB.out.size))
        clear hB1 c0 c1 c2 c3
        go_wp2_with fail
        go_roundw
        case rel => exact ⟨k + 1, by omega, by go_num, HN.out, HB1.out⟩
        case measure => simp [intOf]; omega
      · have HI := Lib.hid (idxF_at (F := F) HA.out HX.out hn)
        rw [hn] at HF
        clear hn
        go_wp2_with fail
        refine HF.out.mono ?_
        rintro e w1 ⟨rfl, hB1⟩
        have HB1 := Lib.hid (HB.out.trans (hB1.mono HB.out.size))
        clear hB1 c0 c1 c2 c3
        go_wp2_with fail
        go_ret
        exact ⟨ret_int HI.out.symm, HB1.out⟩
    · have HI := Lib.hid (idxF_none (F := F) (all_whole HA.out hlt))
      go_wp2_with fail
      go_ret
      exact ⟨ret_int HI.out.symm, HB.out⟩

theorem one_lnV : (Value.agg #[.int .i64 0, .int .i64 0, .int .i64 0, .int .i64 0]).cells.size = 4 ∧ ∀ v ∈ (Value.agg #[.int .i64 0, .int .i64 0, .int .i64 0, .int .i64 0]).cells, v.oneCell' = true := by
  refine ⟨by rfl, fun v hv => ?_⟩
  have h : v = .int .i64 0 := by
    have : (Value.agg #[.int .i64 0, .int .i64 0, .int .i64 0, .int .i64 0]).cells = #[.int .i64 0, .int .i64 0, .int .i64 0, .int .i64 0] := by rfl
    rw [this] at hv
    simpa using hv
  rw [h]
  rfl
theorem lc_take (zs : List L) (i : Nat) : lc (zs.take i) = (lc zs).take (i * 4) := by
  induction zs generalizing i with
  | nil => simp [lc]
  | cons z r ih =>
    cases i with
    | zero => simp [lc]
    | succ i =>
      rw [List.take_succ_cons, show (i + 1) * 4 = i * 4 + 4 by omega]
      show _ :: _ :: _ :: _ :: lc (r.take i) = (_ :: _ :: _ :: _ :: lc r).take (i * 4 + 4)
      rw [ih]
      rfl

set_option maxRecDepth 100000 in
set_option maxHeartbeats 2000000 in
theorem delOt_any (P g base c : Nat) (F : L → Bool) (zs : List L) (w : World) (hO : w.ownsRow base 23 4 (.slice (some ⟨g, 0, none⟩) zs.length c) zs.length (lc zs)) (hm : zs.length ≤ 1000)
    (hC : ∀ W, Off g w W → ∀ n, Calls Try.prog 47 #[lv n, .pointer (some ⟨P, 0, none⟩)] W fun e w' => e = .returned (.bool (F n)) ∧ Below W.heap.size W w') :
    Calls Try.prog 46 #[.slice (some ⟨g, 0, none⟩) zs.length c, .func (.func 47) #[] #[.pointer (some ⟨P, 0, none⟩)]] w fun e w' =>
      e = .returned (.slice (some ⟨g, 0, none⟩) (zs.filter fun x => !F x).length c) ∧ w'.ownsRow base 23 4 (.slice (some ⟨g, 0, none⟩) (zs.filter fun x => !F x).length c) (zs.filter fun x => !F x).length (lc (zs.filter fun x => !F x)) ∧ Off g w w' := by
  have HI := Lib.hid (idxOt_any P F (some ⟨g, 0, none⟩) c zs w (lines_of_own hO).1 hm (fun W hW => hC W (Off.low hW)))
  have HC := Lib.hid hC
  have HO := Lib.hid hO
  clear hC hO
  unfold lv at HC
  have hcap := own_cap HO.out
  rcases idxF_cases F zs with ⟨h1, h2⟩ | ⟨k0, x0, h1, h2, h3, h4⟩
  · rw [h1] at HI
    rw [h2]
    clear h1 h2
    go_enter Try.func46, Try.ntmps46
    go_wp2_with fail
    refine HI.out.mono ?_
    rintro e w1 ⟨rfl, hB⟩
    have HO1 := Lib.hid (own_below HO.out hB (Nat.le_refl _))
    have HB := Lib.hid hB
    clear hB
    go_wp2_with fail
    go_ret
    exact ⟨rfl, HO1.out, Off.low HB.out⟩
  · rw [h1] at HI
    have hkl : k0 < zs.length := (List.getElem?_eq_some_iff.1 h2).1
    have HD := Lib.hid h4
    have hne : ((k0 : Int) == -1) = false := beq_eq_false_iff_ne.2 (by omega)
    clear h1 h2 h3 h4
    go_enter Try.func46, Try.ntmps46
    go_wp2_with fail
    refine HI.out.mono ?_
    rintro e w1 ⟨rfl, hB⟩
    have HO1 := Lib.hid (own_below HO.out hB (Nat.le_refl _))
    have HB := Lib.hid hB
    clear hB
    go_wp2_with fail
    go_loopw [5, 6] (fun s5 s6 wr => ∃ (i j : Nat) (ds : List L), s5 = .int .i64 i ∧ s6 = .int .i64 j ∧ DelI F zs ds i j ∧ wr.ownsRow base 23 4 (.slice (some ⟨g, 0, none⟩) zs.length c) zs.length (lc ds) ∧ Off g w wr) (fun _ s6 _ => zs.length - (intOf s6).toNat)
    case atStart => exact ⟨k0, k0 + 1, zs, rfl, by go_num, HD.out, HO1.out, Off.low HB.out⟩
    case round =>
      clear HO HO1 HD HI HB
      obtain ⟨i, j, ds, rfl, rfl, hD, hO, hF⟩ := hrel
      have hij := hD.lt
      have hjl := hD.le
      by_cases hlt : j < zs.length
      · obtain ⟨x, hx⟩ := get_of_lt hlt
        obtain ⟨b, off, x', eb, hlb, hx', c0, c1, c2, c3⟩ := (lines_of_own hO).1.at_ (k := j) (by rw [hD.len]; exact hlt)
        injection eb with eb
        injection eb with e1 e2 e3
        subst e1
        subst e2
        rw [hD.at_ hx] at hx'
        injection hx' with hx'
        subst hx'
        rw [Nat.zero_add] at c0 c1 c2 c3
        have hal : Below wr.heap.size wr (wr.alloc (.cells #[.int .i64 x.op, .int .i64 x.to, .int .i64 x.a, .int .i64 x.b] 23)) := (Below.refl _ _).alloc (Nat.le_refl _) _
        have HAl := Lib.hid (Off.low (g := g) hal)
        have HF := Lib.hid (HC.out _ (hF.trans (Off.low hal)) x)
        have hO := own_below hO hal (Nat.le_refl _)
        have hi : i < ds.length := by rw [hD.len]; omega
        have HX := Lib.hid hx
        have HD := Lib.hid hD
        have HO := Lib.hid hO
        have HW := Lib.hid (hF.trans (Off.low hal))
        have HOne := Lib.hid (one_line x)
        clear hx hD hO hF hal
        cases hn : F x
        · have HD2 := Lib.hid (HD.out.keep HX.out hn)
          rw [hn] at HF
          clear hn
          go_wp2_with fail
          refine HF.out.mono ?_
          rintro e w1 ⟨rfl, hB1⟩
          have HO1 := Lib.hid (own_below HO.out hB1 (Nat.le_refl _))
          have HW1 := Lib.hid (HW.out.trans (Off.low hB1))
          have hbx := hp_below (hp_new (w := wr) (o := .cells #[.int .i64 x.op, .int .i64 x.to, .int .i64 x.a, .int .i64 x.b] 23 (0, 0)) rfl) hB1 (by simp)
          obtain ⟨v0, v1, v2, v3⟩ := boxL_cells (l := x) hbx
          clear hbx
          have HTh := Lib.hid (own_there HO1.out hi)
          have HPL := Lib.hid (own_setLine HO1.out hi x)
          clear hB1 c0 c1 c2 c3
          go_wp2_with (refine wpList_store_mid rfl 23 (.tmp 33) (.tmp 32) rfl g (i * 4) #[.int .i64 x.op, .int .i64 x.to, .int .i64 x.a, .int .i64 x.b] rfl rfl HTh.out info_ln HOne.out ?_)
          go_wp2_with fail
          go_roundw
          case rel => exact ⟨i + 1, j + 1, _, by go_num, by go_num, HD2.out, HPL.out, HW1.out.trans (Off.setCells _ _ _ _)⟩
          case measure => simp [intOf]; omega
        · have HD2 := Lib.hid (HD.out.skip HX.out hn)
          rw [hn] at HF
          clear hn
          go_wp2_with fail
          refine HF.out.mono ?_
          rintro e w1 ⟨rfl, hB1⟩
          have HO1 := Lib.hid (own_below HO.out hB1 (Nat.le_refl _))
          have HW1 := Lib.hid (HW.out.trans (Off.low hB1))
          clear hB1 c0 c1 c2 c3
          go_wp2_with fail
          go_roundw
          case rel => exact ⟨i, j + 1, _, rfl, by go_num, HD2.out, HO1.out, HW1.out⟩
          case measure => simp [intOf]; omega
      · obtain rfl : j = zs.length := by omega
        have HE := Lib.hid hD.done
        obtain ⟨cur, hcl, hown⟩ := own_clear (t := 29) (e := 23) (z := .agg #[.int .i64 0, .int .i64 0, .int .i64 0, .int .i64 0]) (k := 4) Try.underlying29 Try.zeroValue23 one_lnV.1 one_lnV.2 hO (show i < zs.length from hij) (by decide) (c - i) 0
        have hil : i = (zs.filter fun x => !F x).length := by rw [← HE.out, List.length_take, hD.len]; omega
        rw [← lc_take, HE.out] at hown
        have HIL := Lib.hid hil
        clear hil
        have HW := Lib.hid (hF.trans (Off.setRow g wr cur))
        have HOW := Lib.hid hown
        clear hD hO hF hown HE HC
        have hci : ¬ c = i := by omega
        go_wp2_with fail
        go_ret
        have HOW := HOW.out
        have HIL := HIL.out
        rw [← HIL]
        exact ⟨rfl, HOW, HW.out⟩

end Go.Proofs.Ytfmheeboogffeaa
