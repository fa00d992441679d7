/- Several texts in one. -/
import Derived.Test.YtfclfmloceddfaaGreatFxR
import Derived.Test.YtfclfmloceddfaaGreatSkB
import Derived.Test.YtfclfmloceddfaaGreatPtZ
import Derived.Test.YtfclfmloceddfaaGreatSkA
import Derived.BigQuiet
/- slices.DeleteFunc on lines, at the closure of seek.others. -/
set_option linter.unusedVariables false
set_option linter.unusedSimpArgs false
namespace Go.Proofs.YtfclfmloceddfaaGreat
open Go.RowKit Tinker

set_option maxHeartbeats 400000 in
theorem others1_any (P : Nat) (l x : L) (w : World) (hP : w.heap[P]? = some (.cells (lV l) 42 (0, 0))) :
    Calls Tryz.prog 110 #[lv x, .pointer (some ⟨P, 0, none⟩)] w fun e w' => e = .returned (.bool (eqL x l || !isLn x)) ∧ Below w.heap.size w w' := by
  have HV := Lib.hid (fun w => validateLine_any x w)
  obtain ⟨c0, c1, c2, c3⟩ := boxL_cells hP
  have hPl := hp_lt hP
  have HB0 := Lib.hid (show Below w.heap.size w (w.alloc (.cells #[.int .i64 x.op, .int .i64 x.to, .int .i64 x.a, .int .i64 x.b] 42)) from (Below.refl _ _).alloc (Nat.le_refl _) _)
  clear hP
  unfold lv at HV ⊢
  cases hq : eqL x l
  · cases hv : isLn x
    · rw [show vl x = 1 by unfold vl; rw [hv]; rfl] at HV
      have HNE := Lib.hid (ne_facts hq)
      clear hv hq
      rcases HNE.out with h1 | ⟨h1, h2⟩ | ⟨h1, h2, h3⟩ | ⟨h1, h2, h3, h4⟩
      all_goals
        clear HNE
        go_enter Tryz.func110, Tryz.ntmps110
        go_wp2_with fail
        refine (HV.out _).mono ?_
        rintro e w1 ⟨rfl, hB⟩
        go_wp2_with fail
        go_ret
        exact ⟨rfl, HB0.out.trans (hB.mono HB0.out.size)⟩
    · rw [show vl x = 0 by unfold vl; rw [hv]; rfl] at HV
      have HNE := Lib.hid (ne_facts hq)
      clear hv hq
      rcases HNE.out with h1 | ⟨h1, h2⟩ | ⟨h1, h2, h3⟩ | ⟨h1, h2, h3, h4⟩
      all_goals
        clear HNE
        go_enter Tryz.func110, Tryz.ntmps110
        go_wp2_with fail
        refine (HV.out _).mono ?_
        rintro e w1 ⟨rfl, hB⟩
        go_wp2_with fail
        go_ret
        exact ⟨rfl, HB0.out.trans (hB.mono HB0.out.size)⟩
  · have HLE := Lib.hid (eqL_iff.1 hq)
    have y1 : (x.op == l.op) = true := by rw [HLE.out]; simp
    have y2 : (x.to == l.to) = true := by rw [HLE.out]; simp
    have y3 : (x.a == l.a) = true := by rw [HLE.out]; simp
    have y4 : (x.b == l.b) = true := by rw [HLE.out]; simp
    clear hq HV
    go_enter Tryz.func110, Tryz.ntmps110
    go_wp2_with fail
    go_ret
    exact ⟨rfl, HB0.out⟩

set_option maxRecDepth 100000 in
set_option maxHeartbeats 1000000 in
theorem idxOt_any (P : Nat) (F : L → Bool) (a : Option Addr) (c : Nat) (zs : List L) (w : World) (hz : LinesAt w a zs) (hm : zs.length ≤ 1000)
    (hC : ∀ W, Below w.heap.size w W → ∀ n, Calls Tryz.prog 110 #[lv n, .pointer (some ⟨P, 0, none⟩)] W fun e w' => e = .returned (.bool (F n)) ∧ Below W.heap.size W w') :
    Calls Tryz.prog 133 #[.slice a zs.length c, .func (.func 110) #[] #[.pointer (some ⟨P, 0, none⟩)]] w fun e w' => e = .returned (.int .i64 (idxF F zs)) ∧ Below w.heap.size w w' := by
  have HC := Lib.hid hC
  have HZ := Lib.hid hz
  clear hC hz
  unfold lv at HC
  go_enter Tryz.func133, Tryz.ntmps133
  go_wp2_with fail
  go_loopw [8] (fun s8 wr => ∃ k : Nat, k ≤ zs.length ∧ s8 = .int .i64 k ∧ (zs.take k).all (fun x => !F x) = true ∧ Below w.heap.size w wr) (fun s8 _ => zs.length - (intOf s8).toNat)
  case atStart => exact ⟨0, Nat.zero_le _, rfl, by simp, Below.refl _ _⟩
  case round =>
    obtain ⟨k, hk, rfl, hall, hB⟩ := hrel
    have HA := Lib.hid hall
    have HB := Lib.hid hB
    clear hall hB
    by_cases hlt : k < zs.length
    · obtain ⟨b, off, x, rfl, hlb, hx, c0, c1, c2, c3⟩ := (HZ.out.below HB.out (Nat.le_refl _)).at_ hlt
      have HX := Lib.hid hx
      have HF := Lib.hid (HC.out wr HB.out x)
      clear hx
      cases hn : F x
      · have HN := Lib.hid (all_snoc (f := fun x => !F x) HA.out HX.out (by simpa using hn))
        rw [hn] at HF
        clear hn
        go_wp2_with fail
        refine HF.out.mono ?_
        rintro e w1 ⟨rfl, hB1⟩
        have HB1 := Lib.hid (HB.out.trans (hB1.mono HB.out.size))
        clear hB1 c0 c1 c2 c3
        go_wp2_with fail
        go_roundw
        case rel => exact ⟨k + 1, by omega, by go_num, HN.out, HB1.out⟩
        case measure => simp [intOf]; omega
      · have HI := Lib.hid (idxF_at (F := F) HA.out HX.out hn)
        rw [hn] at HF
        clear hn
        go_wp2_with fail
        refine HF.out.mono ?_
        rintro e w1 ⟨rfl, hB1⟩
        have HB1 := Lib.hid (HB.out.trans (hB1.mono HB.out.size))
        clear hB1 c0 c1 c2 c3
        go_wp2_with fail
        go_ret
        exact ⟨ret_int HI.out.symm, HB1.out⟩
    · have HI := Lib.hid (idxF_none (F := F) (all_whole HA.out hlt))
      go_wp2_with fail
      go_ret
      exact ⟨ret_int HI.out.symm, HB.out⟩

theorem one_lnV : (Value.agg #[.int .i64 0, .int .i64 0, .int .i64 0, .int .i64 0]).cells.size = 4 ∧ ∀ v ∈ (Value.agg #[.int .i64 0, .int .i64 0, .int .i64 0, .int .i64 0]).cells, v.oneCell' = true := by
  refine ⟨by rfl, fun v hv => ?_⟩
  have h : v = .int .i64 0 := by
    have : (Value.agg #[.int .i64 0, .int .i64 0, .int .i64 0, .int .i64 0]).cells = #[.int .i64 0, .int .i64 0, .int .i64 0, .int .i64 0] := by rfl
    rw [this] at hv
    simpa using hv
  rw [h]
  rfl
theorem lc_take (zs : List L) (i : Nat) : lc (zs.take i) = (lc zs).take (i * 4) := by
  induction zs generalizing i with
  | nil => simp [lc]
  | cons z r ih =>
    cases i with
    | zero => simp [lc]
    | succ i =>
      rw [List.take_succ_cons, show (i + 1) * 4 = i * 4 + 4 by omega]
      show _ :: _ :: _ :: _ :: lc (r.take i) = (_ :: _ :: _ :: _ :: lc r).take (i * 4 + 4)
      rw [ih]
      rfl

set_option maxRecDepth 100000 in
set_option maxHeartbeats 2000000 in
theorem delOt_any (P g base c : Nat) (F : L → Bool) (zs : List L) (w : World) (hO : w.ownsRow base 42 4 (.slice (some ⟨g, 0, none⟩) zs.length c) zs.length (lc zs)) (hm : zs.length ≤ 1000)
    (hC : ∀ W, Off g w W → ∀ n, Calls Tryz.prog 110 #[lv n, .pointer (some ⟨P, 0, none⟩)] W fun e w' => e = .returned (.bool (F n)) ∧ Below W.heap.size W w') :
    Calls Tryz.prog 109 #[.slice (some ⟨g, 0, none⟩) zs.length c, .func (.func 110) #[] #[.pointer (some ⟨P, 0, none⟩)]] w fun e w' =>
      e = .returned (.slice (some ⟨g, 0, none⟩) (zs.filter fun x => !F x).length c) ∧ w'.ownsRow base 42 4 (.slice (some ⟨g, 0, none⟩) (zs.filter fun x => !F x).length c) (zs.filter fun x => !F x).length (lc (zs.filter fun x => !F x)) ∧ Off g w w' := by
  have HI := Lib.hid (idxOt_any P F (some ⟨g, 0, none⟩) c zs w (lines_of_own hO).1 hm (fun W hW => hC W (Off.low hW)))
  have HC := Lib.hid hC
  have HO := Lib.hid hO
  clear hC hO
  unfold lv at HC
  have hcap := own_cap HO.out
  rcases idxF_cases F zs with ⟨h1, h2⟩ | ⟨k0, x0, h1, h2, h3, h4⟩
  · rw [h1] at HI
    rw [h2]
    clear h1 h2
    go_enter Tryz.func109, Tryz.ntmps109
    go_wp2_with fail
    refine HI.out.mono ?_
    rintro e w1 ⟨rfl, hB⟩
    have HO1 := Lib.hid (own_below HO.out hB (Nat.le_refl _))
    have HB := Lib.hid hB
    clear hB
    go_wp2_with fail
    go_ret
    exact ⟨rfl, HO1.out, Off.low HB.out⟩
  · rw [h1] at HI
    have hkl : k0 < zs.length := (List.getElem?_eq_some_iff.1 h2).1
    have HD := Lib.hid h4
    have hne : ((k0 : Int) == -1) = false := beq_eq_false_iff_ne.2 (by omega)
    clear h1 h2 h3 h4
    go_enter Tryz.func109, Tryz.ntmps109
    go_wp2_with fail
    refine HI.out.mono ?_
    rintro e w1 ⟨rfl, hB⟩
    have HO1 := Lib.hid (own_below HO.out hB (Nat.le_refl _))
    have HB := Lib.hid hB
    clear hB
    go_wp2_with fail
    go_loopw [5, 6] (fun s5 s6 wr => ∃ (i j : Nat) (ds : List L), s5 = .int .i64 i ∧ s6 = .int .i64 j ∧ DelI F zs ds i j ∧ wr.ownsRow base 42 4 (.slice (some ⟨g, 0, none⟩) zs.length c) zs.length (lc ds) ∧ Off g w wr) (fun _ s6 _ => zs.length - (intOf s6).toNat)
    case atStart => exact ⟨k0, k0 + 1, zs, rfl, by go_num, HD.out, HO1.out, Off.low HB.out⟩
    case round =>
      clear HO HO1 HD HI HB
      obtain ⟨i, j, ds, rfl, rfl, hD, hO, hF⟩ := hrel
      have hij := hD.lt
      have hjl := hD.le
      by_cases hlt : j < zs.length
      · obtain ⟨x, hx⟩ := get_of_lt hlt
        obtain ⟨b, off, x', eb, hlb, hx', c0, c1, c2, c3⟩ := (lines_of_own hO).1.at_ (k := j) (by rw [hD.len]; exact hlt)
        injection eb with eb
        injection eb with e1 e2 e3
        subst e1
        subst e2
        rw [hD.at_ hx] at hx'
        injection hx' with hx'
        subst hx'
        rw [Nat.zero_add] at c0 c1 c2 c3
        have hal : Below wr.heap.size wr (wr.alloc (.cells #[.int .i64 x.op, .int .i64 x.to, .int .i64 x.a, .int .i64 x.b] 42)) := (Below.refl _ _).alloc (Nat.le_refl _) _
        have HAl := Lib.hid (Off.low (g := g) hal)
        have HF := Lib.hid (HC.out _ (hF.trans (Off.low hal)) x)
        have hO := own_below hO hal (Nat.le_refl _)
        have hi : i < ds.length := by rw [hD.len]; omega
        have HX := Lib.hid hx
        have HD := Lib.hid hD
        have HO := Lib.hid hO
        have HW := Lib.hid (hF.trans (Off.low hal))
        have HOne := Lib.hid (one_line x)
        clear hx hD hO hF hal
        cases hn : F x
        · have HD2 := Lib.hid (HD.out.keep HX.out hn)
          rw [hn] at HF
          clear hn
          go_wp2_with fail
          refine HF.out.mono ?_
          rintro e w1 ⟨rfl, hB1⟩
          have HO1 := Lib.hid (own_below HO.out hB1 (Nat.le_refl _))
          have HW1 := Lib.hid (HW.out.trans (Off.low hB1))
          have hbx := hp_below (hp_new (w := wr) (o := .cells #[.int .i64 x.op, .int .i64 x.to, .int .i64 x.a, .int .i64 x.b] 42 (0, 0)) rfl) hB1 (by simp)
          obtain ⟨v0, v1, v2, v3⟩ := boxL_cells (l := x) hbx
          clear hbx
          have HTh := Lib.hid (own_there HO1.out hi)
          have HPL := Lib.hid (own_setLine HO1.out hi x)
          clear hB1 c0 c1 c2 c3
          go_wp2_with (refine wpList_store_mid rfl 42 (.tmp 33) (.tmp 32) rfl g (i * 4) #[.int .i64 x.op, .int .i64 x.to, .int .i64 x.a, .int .i64 x.b] rfl rfl HTh.out info_ln HOne.out ?_)
          go_wp2_with fail
          go_roundw
          case rel => exact ⟨i + 1, j + 1, _, by go_num, by go_num, HD2.out, HPL.out, HW1.out.trans (Off.setCells _ _ _ _)⟩
          case measure => simp [intOf]; omega
        · have HD2 := Lib.hid (HD.out.skip HX.out hn)
          rw [hn] at HF
          clear hn
          go_wp2_with fail
          refine HF.out.mono ?_
          rintro e w1 ⟨rfl, hB1⟩
          have HO1 := Lib.hid (own_below HO.out hB1 (Nat.le_refl _))
          have HW1 := Lib.hid (HW.out.trans (Off.low hB1))
          clear hB1 c0 c1 c2 c3
          go_wp2_with fail
          go_roundw
          case rel => exact ⟨i, j + 1, _, rfl, by go_num, HD2.out, HO1.out, HW1.out⟩
          case measure => simp [intOf]; omega
      · obtain rfl : j = zs.length := by omega
        have HE := Lib.hid hD.done
        obtain ⟨cur, hcl, hown⟩ := own_clear (t := 22) (e := 42) (z := .agg #[.int .i64 0, .int .i64 0, .int .i64 0, .int .i64 0]) (k := 4) Tryz.underlying22 Tryz.zeroValue42 one_lnV.1 one_lnV.2 hO (show i < zs.length from hij) (by decide) (c - i) 0
        have hil : i = (zs.filter fun x => !F x).length := by rw [← HE.out, List.length_take, hD.len]; omega
        rw [← lc_take, HE.out] at hown
        have HIL := Lib.hid hil
        clear hil
        have HW := Lib.hid (hF.trans (Off.setRow g wr cur))
        have HOW := Lib.hid hown
        clear hD hO hF hown HE HC
        have hci : ¬ c = i := by omega
        go_wp2_with fail
        go_ret
        have HOW := HOW.out
        have HIL := HIL.out
        rw [← HIL]
        exact ⟨rfl, HOW, HW.out⟩

end Go.Proofs.YtfclfmloceddfaaGreat

/- slices.Compact on lines. -/
set_option linter.unusedVariables false
set_option linter.unusedSimpArgs false
namespace Go.Proofs.YtfclfmloceddfaaGreat
open Go.RowKit Tinker
theorem cmpct_snoc : ∀ (l : List L) (y x : L), cmpct (l ++ [y, x]) = if eqL y x then cmpct (l ++ [y]) else cmpct (l ++ [y]) ++ [x]
  | [], y, x => by
    cases h : eqL y x
    · simp [cmpct, h]
    · have := eqL_iff.1 h
      subst this
      simp [cmpct, h]
  | [a], y, x => by
    have ih := cmpct_snoc [] y x
    simp only [List.nil_append] at ih
    show cmpct (a :: y :: [x]) = if eqL y x then cmpct (a :: y :: []) else cmpct (a :: y :: []) ++ [x]
    have e1 : cmpct (a :: y :: [x]) = if eqL a y then cmpct [y, x] else a :: cmpct [y, x] := by rw [cmpct]
    have e2 : cmpct (a :: y :: []) = if eqL a y then cmpct [y] else a :: cmpct [y] := by simp only [cmpct]
    rw [e1, e2, ih]
    cases eqL a y <;> cases eqL y x <;> simp
  | a :: b :: r, y, x => by
    have ih := cmpct_snoc (b :: r) y x
    show cmpct (a :: b :: (r ++ [y, x])) = if eqL y x then cmpct (a :: b :: (r ++ [y])) else cmpct (a :: b :: (r ++ [y])) ++ [x]
    rw [cmpct, cmpct]
    have ih' : cmpct (b :: (r ++ [y, x])) = if eqL y x then cmpct (b :: (r ++ [y])) else cmpct (b :: (r ++ [y])) ++ [x] := ih
    rw [ih']
    cases eqL a b <;> cases eqL y x <;> simp
theorem take_two {zs : List L} {k : Nat} {x y : L} (hy : zs[k]? = some y) (hx : zs[k + 1]? = some x) : zs.take (k + 2) = zs.take k ++ [y, x] := by
  rw [take_snoc hx, take_snoc hy, List.append_assoc]
  rfl
theorem cmpct_next {zs : List L} {k : Nat} {x y : L} (hy : zs[k]? = some y) (hx : zs[k + 1]? = some x) : cmpct (zs.take (k + 2)) = if eqL y x then cmpct (zs.take (k + 1)) else cmpct (zs.take (k + 1)) ++ [x] := by
  rw [take_two hy hx, cmpct_snoc, take_snoc hy]
theorem eqL_comm (l m : L) : eqL l m = eqL m l := by
  rw [Bool.eq_iff_iff, eqL_iff, eqL_iff]
  exact ⟨fun h => h.symm, fun h => h.symm⟩
/-- What is compact of the first j + 1, in the first i of ds; from j on all is as it was. -/
structure CpI (zs ds : List L) (i j : Nat) : Prop where
  len : ds.length = zs.length
  le : i ≤ j
  lt : j + 1 ≤ zs.length
  low : ds.take i = cmpct (zs.take (j + 1))
  high : ds.drop j = zs.drop j
theorem CpI.start {zs : List L} {m : Nat} {x y : L} (hy : zs[m]? = some y) (hx : zs[m + 1]? = some x) (he : eqL y x = true) (hn : cmpct (zs.take (m + 1)) = zs.take (m + 1)) : CpI zs zs (m + 1) (m + 1) := by
  have hlt := (List.getElem?_eq_some_iff.1 hx).1
  exact ⟨rfl, Nat.le_refl _, hlt, by rw [cmpct_next hy hx, if_pos he, hn], rfl⟩
theorem CpI.at_ {zs ds : List L} {i j k : Nat} {x : L} (h : CpI zs ds i j) (hx : zs[k]? = some x) (hk : j ≤ k) : ds[k]? = some x := by
  have h1 : (ds.drop j)[k - j]? = (zs.drop j)[k - j]? := by rw [h.high]
  rw [List.getElem?_drop, List.getElem?_drop, Nat.add_sub_cancel' hk] at h1
  rw [h1, hx]
theorem CpI.skip {zs ds : List L} {i j : Nat} {x y : L} (h : CpI zs ds i j) (hy : zs[j]? = some y) (hx : zs[j + 1]? = some x) (he : eqL y x = true) : CpI zs ds i (j + 1) := by
  have hlt := (List.getElem?_eq_some_iff.1 hx).1
  have hle := h.le
  exact ⟨h.len, by omega, hlt, by rw [cmpct_next hy hx, if_pos he]; exact h.low, by rw [← List.drop_drop, h.high, List.drop_drop]⟩
theorem CpI.keep {zs ds : List L} {i j : Nat} {x y : L} (h : CpI zs ds i j) (hy : zs[j]? = some y) (hx : zs[j + 1]? = some x) (he : eqL y x = false) : CpI zs (ds.set i x) (i + 1) (j + 1) := by
  have hlt := (List.getElem?_eq_some_iff.1 hx).1
  have hle := h.le
  have hi : i < ds.length := by rw [h.len]; omega
  refine ⟨by rw [List.length_set]; exact h.len, by omega, hlt, ?_, ?_⟩
  · rw [take_snoc (List.getElem?_set_self hi), List.take_set_of_le (Nat.le_refl _), h.low, cmpct_next hy hx, he]
    rfl
  · rw [List.drop_set_of_lt (by omega), ← List.drop_drop, h.high, List.drop_drop]
theorem CpI.done {zs ds : List L} {i j : Nat} (h : CpI zs ds i j) (hj : ¬ j + 1 < zs.length) : ds.take i = cmpct zs := by
  have := h.low
  have hlt := h.lt
  rwa [show j + 1 = zs.length by omega, List.take_length] at this
theorem cmpct_small {zs : List L} (h : zs.length < 2) : cmpct zs = zs := by
  match zs, h with
  | [], _ => rfl
  | [_], _ => rfl

theorem Off.drewN {g : Nat} {w w' : World} (h : Off g w w') (n : Nat) : Off g w (w'.drewN n) := ⟨h.os, h.tape, h.output, h.size, h.block⟩

theorem run_neL (l m : L) (w : World) : Sem.run Tryz.prog (binOp .neq 42 (.agg #[.int .i64 l.op, .int .i64 l.to, .int .i64 l.a, .int .i64 l.b]) (.agg #[.int .i64 m.op, .int .i64 m.to, .int .i64 m.a, .int .i64 m.b])) w = .ok (.bool (!eqL l m)) w := by
  have u3 := Tryz.underlying3
  have a3 := Tryz.isAgg3
  have z3 := Tryz.sizeOf3
  have hS : Tryz.prog.underlying 42 = some (.struct (Tryz.prog.fieldsOf 42)) := by kernel_rfl
  have hp : Tryz.prog.stoodInHeld 42 = false := by kernel_rfl
  rw [run_neq_struct, show (10000 : Nat) = 9999 + 1 from rfl, run_equalIn_agg w 9999 42 _ _ hS hp]
  simp only [Program.fieldsOf, Tryz.underlying42]
  go_simp
  by_cases h1 : l.op = m.op <;> by_cases h2 : l.to = m.to <;> by_cases h3 : l.a = m.a <;> by_cases h4 : l.b = m.b <;> simp [h1, h2, h3, h4, eqL]

set_option maxRecDepth 100000 in
set_option maxHeartbeats 8000000 in
theorem compactL_any (g base c : Nat) (zs : List L) (w : World) (hO : w.ownsRow base 42 4 (.slice (some ⟨g, 0, none⟩) zs.length c) zs.length (lc zs)) (hm : zs.length ≤ 1000) :
    Calls Tryz.prog 113 #[.slice (some ⟨g, 0, none⟩) zs.length c] w fun e w' =>
      e = .returned (.slice (some ⟨g, 0, none⟩) (cmpct zs).length c) ∧ w'.ownsRow base 42 4 (.slice (some ⟨g, 0, none⟩) (cmpct zs).length c) (cmpct zs).length (lc (cmpct zs)) ∧ Off g w w' := by
  have HO := Lib.hid hO
  have hcap := own_cap hO
  have hgl := own_lt hO
  clear hO
  by_cases h2 : zs.length < 2
  · have HC := Lib.hid (cmpct_small h2)
    rw [HC.out]
    go_enter Tryz.func113, Tryz.ntmps113
    go_wp2_with fail
    go_ret
    exact ⟨rfl, HO.out, Off.refl _ _⟩
  · go_enter Tryz.func113, Tryz.ntmps113
    go_wp2_with fail
    go_loopw [3] (fun s3 wr => ∃ m : Nat, m + 1 ≤ zs.length ∧ s3 = .int .i64 ((m : Int) + 1) ∧ cmpct (zs.take (m + 1)) = zs.take (m + 1) ∧ wr.ownsRow base 42 4 (.slice (some ⟨g, 0, none⟩) zs.length c) zs.length (lc zs) ∧ Off g w wr) (fun s3 _ => zs.length - (intOf s3).toNat)
    case atStart => exact ⟨0, by omega, rfl, cmpct_small (by rw [List.length_take]; omega), HO.out, Off.refl _ _⟩
    case round =>
      clear HO
      obtain ⟨m, hk, rfl, hn, hO, hF⟩ := hrel
      have HN := Lib.hid hn
      have HO := Lib.hid hO
      have HF := Lib.hid hF
      clear hn hO hF
      by_cases hlt : m + 1 < zs.length
      · obtain ⟨b, off, x, eb, hlb, hx, c0, c1, c2, c3⟩ := (lines_of_own HO.out).1.at_ hlt
        injection eb with eb
        injection eb with e1 e2 e3
        subst e1
        subst e2
        obtain ⟨b, off, y, eb, hlb2, hy, d0, d1, d2, d3⟩ := (lines_of_own HO.out).1.at_ (show m < zs.length by omega)
        injection eb with eb
        injection eb with e1 e2 e3
        subst e1
        subst e2
        rw [Nat.zero_add] at c0 c1 c2 c3 d0 d1 d2 d3
        have HX := Lib.hid hx
        have HY := Lib.hid hy
        have r1 := run_eqL x y
        clear hx hy
        have hlt1 : decide ((m : Int) + 1 < (zs.length : Int)) = true := by simp; omega
        cases hq : eqL x y
        · rw [hq] at r1
          have HNx := Lib.hid (show cmpct (zs.take (m + 1 + 1)) = zs.take (m + 1 + 1) by rw [cmpct_next HY.out HX.out, eqL_comm, hq, HN.out, ← take_snoc HX.out]; rfl)
          clear hq
          go_wp2_with fail
          go_quiet (fail)
          go_wp2_with fail
          go_roundw
          case rel => exact ⟨m + 1, by omega, by go_num, HNx.out, HO.out, HF.out.drewN _⟩
          case measure => simp [intOf]; omega
        · rw [hq] at r1
          have HSt := Lib.hid (CpI.start HY.out HX.out (by rw [eqL_comm]; exact hq) HN.out)
          clear hq
          go_wp2_with fail
          go_quiet (fail)
          clear c0 c1 c2 c3 d0 d1 d2 d3 r1
          have HO := Lib.hid (show (wr.drewN nq).ownsRow base 42 4 (.slice (some ⟨g, 0, none⟩) zs.length c) zs.length (lc zs) from HO.out)
          have HF := Lib.hid (HF.out.drewN nq)
          generalize wr.drewN nq = W1 at *
          go_wp2_with fail
          obtain ⟨N2, hN2⟩ : ∃ N, zs.length - (m + 1) = N := ⟨_, rfl⟩
          rw [hN2]
          have hN3 : N2 + m + 1 ≤ zs.length := by omega
          have hN4 : zs.length ≤ N2 + m + 1 := by omega
          clear hN2
          obtain ⟨o2, ho2⟩ : ∃ o, (m + 1) * 4 = o := ⟨_, rfl⟩
          rw [ho2]
          have HO2 := Lib.hid ho2
          clear ho2
          go_loopw [3, 5] (fun s3 s5 wx => ∃ (i q : Nat) (ds : List L), s3 = .int .i64 i ∧ s5 = .int .i64 ((q : Int) + 1) ∧ CpI zs ds i (m + 1 + q) ∧ wx.ownsRow base 42 4 (.slice (some ⟨g, 0, none⟩) zs.length c) zs.length (lc ds) ∧ Off g w wx) (fun _ s5 _ => zs.length - (intOf s5).toNat)
          case atStart => exact ⟨m + 1, 0, zs, by go_num, by rfl, HSt.out, HO.out, HF.out⟩
          case round =>
            clear HO HF HSt HX HY HN
            obtain ⟨i, q, ds, rfl, rfl, hC, hO, hF⟩ := hrel
            have hci := hC.le
            have hcl := hC.lt
            have HC := Lib.hid hC
            have HO := Lib.hid hO
            have HF := Lib.hid hF
            clear hC hO hF
            by_cases hlq : q + 1 < N2
            · have hq1 : decide ((q : Int) + 1 < (N2 : Int)) = true := decide_eq_true (by omega)
              have hb1 : (0 : Int) ≤ (q : Int) + 1 := by omega
              have hb2 : (q : Int) + 1 < (N2 : Int) := by omega
              have hb3 : (0 : Int) ≤ (q : Int) := by omega
              have hb4 : (q : Int) < (N2 : Int) := by omega
              have hb5 : q < N2 := by omega
              have hwq : IntKind.i64.wrap (q : Int) = (q : Int) := IntWalk.i64_in _ (by omega)
              obtain ⟨x2, hx2⟩ := get_of_lt (show m + 1 + q + 1 < zs.length by omega)
              obtain ⟨y2, hy2⟩ := get_of_lt (show m + 1 + q < zs.length by omega)
              obtain ⟨b, off, x', eb, hlb, hx', c0, c1, c2, c3⟩ := (lines_of_own HO.out).1.at_ (k := m + 1 + q + 1) (by rw [HC.out.len]; omega)
              injection eb with eb
              injection eb with e1 e2 e3
              subst e1
              subst e2
              rw [HC.out.at_ hx2 (by omega)] at hx'
              injection hx' with hx'
              subst hx'
              obtain ⟨b, off, y', eb, hlb2, hy', d0, d1, d2, d3⟩ := (lines_of_own HO.out).1.at_ (k := m + 1 + q) (by rw [HC.out.len]; omega)
              injection eb with eb
              injection eb with e1 e2 e3
              subst e1
              subst e2
              rw [HC.out.at_ hy2 (by omega)] at hy'
              injection hy' with hy'
              subst hy'
              rw [show 0 + (m + 1 + q + 1) * 4 = o2 + (q + 1) * 4 by have := HO2.out; omega] at c0 c1 c2 c3
              rw [show 0 + (m + 1 + q) * 4 = o2 + q * 4 by have := HO2.out; omega] at d0 d1 d2 d3
              have HX := Lib.hid hx2
              have HY := Lib.hid hy2
              have r1 := run_neL x2 y2
              have hi : i < ds.length := by rw [HC.out.len]; omega
              have HOne := Lib.hid (one_line x2)
              clear hx2 hy2
              cases hq : eqL x2 y2
              · rw [hq, Bool.not_false] at r1
                have HK := Lib.hid (HC.out.keep HY.out HX.out (by rw [eqL_comm]; exact hq))
                clear hq
                go_wp2_with fail
                go_quiet (fail)
                have HO1 := Lib.hid (show (wr.drewN nq).ownsRow base 42 4 (.slice (some ⟨g, 0, none⟩) zs.length c) zs.length (lc ds) from HO.out)
                have HF1 := Lib.hid (HF.out.drewN nq)
                have k0 : (wr.drewN nq).cell? ⟨g, o2 + (q + 1) * 4, none⟩ = some (.int .i64 x2.op) := c0
                have k1 : (wr.drewN nq).cell? ⟨g, o2 + (q + 1) * 4 + 1, none⟩ = some (.int .i64 x2.to) := c1
                have k2 : (wr.drewN nq).cell? ⟨g, o2 + (q + 1) * 4 + 2, none⟩ = some (.int .i64 x2.a) := c2
                have k3 : (wr.drewN nq).cell? ⟨g, o2 + (q + 1) * 4 + 3, none⟩ = some (.int .i64 x2.b) := c3
                clear c0 c1 c2 c3 d0 d1 d2 d3 r1 HO HF
                generalize wr.drewN nq = W2 at *
                have HTh := Lib.hid (own_there HO1.out hi)
                have HPL := Lib.hid (own_setLine HO1.out hi x2)
                go_wp2_with (refine wpList_store_mid rfl 42 (.tmp 51) (.tmp 50) rfl g (i * 4) #[.int .i64 x2.op, .int .i64 x2.to, .int .i64 x2.a, .int .i64 x2.b] rfl rfl HTh.out info_ln HOne.out ?_)
                go_wp2_with fail
                go_roundw
                case rel => exact ⟨i + 1, q + 1, _, by go_num, by go_num, HK.out, HPL.out, HF1.out.trans (Off.setCells _ _ _ _)⟩
                case measure => simp [intOf]; omega
              · rw [hq, Bool.not_true] at r1
                have HK := Lib.hid (HC.out.skip HY.out HX.out (by rw [eqL_comm]; exact hq))
                clear hq
                go_wp2_with fail
                go_quiet (fail)
                go_wp2_with fail
                go_roundw
                case rel => exact ⟨i, q + 1, ds, rfl, by go_num, HK.out, HO.out, HF.out.drewN _⟩
                case measure => simp [intOf]; omega
            · have hq1 : decide ((q : Int) + 1 < (N2 : Int)) = false := decide_eq_false (by omega)
              have HE := Lib.hid (HC.out.done (by omega))
              obtain ⟨cur, hcl2, hown⟩ := own_clear (t := 22) (e := 42) (z := .agg #[.int .i64 0, .int .i64 0, .int .i64 0, .int .i64 0]) (k := 4) Tryz.underlying22 Tryz.zeroValue42 one_lnV.1 one_lnV.2 HO.out (show i < zs.length by omega) (by decide) (c - i) 0
              have hil : i = (cmpct zs).length := by rw [← HE.out, List.length_take, HC.out.len]; omega
              rw [← lc_take, HE.out] at hown
              have HIL := Lib.hid hil
              clear hil
              have HW := Lib.hid (HF.out.trans (Off.setRow g wr cur))
              have HOW := Lib.hid hown
              have hil2 : i < zs.length := by omega
              clear HC HO HF hown HE hci hcl
              have hci : ¬ c = i := by omega
              go_wp2_with fail
              go_ret
              have HOW := HOW.out
              have HIL := HIL.out
              rw [← HIL]
              exact ⟨rfl, HOW, HW.out⟩
      · have he : m + 1 = zs.length := by omega
        have HC := Lib.hid (show cmpct zs = zs by have h := HN.out; rwa [he, List.take_length] at h)
        have hlt1 : decide ((m : Int) + 1 < (zs.length : Int)) = false := decide_eq_false (by omega)
        clear he HN
        go_wp2_with fail
        go_ret
        have HC := HC.out
        rw [HC]
        exact ⟨rfl, HO.out, HF.out⟩

end Go.Proofs.YtfclfmloceddfaaGreat

/- slices.Index and slices.Contains on lines. -/
set_option linter.unusedVariables false
set_option linter.unusedSimpArgs false
namespace Go.Proofs.YtfclfmloceddfaaGreat
open Go.RowKit Tinker

theorem below_drewN7 {B : Nat} {a w : World} (h : Below B a w) (n : Nat) : Below B a (w.drewN n) := h.trans ⟨rfl, rfl, rfl, Nat.le_refl _, fun _ _ => rfl⟩

set_option maxRecDepth 100000 in
set_option maxHeartbeats 2000000 in
theorem indexL_any (a : Option Addr) (c : Nat) (zs : List L) (n : L) (w : World) (hz : LinesAt w a zs) (hm : zs.length ≤ 10000) :
    Calls Tryz.prog 77 #[.slice a zs.length c, lv n] w fun e w' => e = .returned (.int .i64 (idxF (fun x => eqL x n) zs)) ∧ Below w.heap.size w w' := by
  have HZ := Lib.hid hz
  have HB := Lib.hid (show Below w.heap.size w (w.alloc (.cells #[.int .i64 n.op, .int .i64 n.to, .int .i64 n.a, .int .i64 n.b] 42)) from (Below.refl _ _).alloc (Nat.le_refl _) _)
  have HN := Lib.hid (show (w.alloc (.cells #[.int .i64 n.op, .int .i64 n.to, .int .i64 n.a, .int .i64 n.b] 42)).heap[w.heap.size]? = some (.cells (lV n) 42 (0, 0)) from hp_new rfl)
  clear hz
  unfold lv
  go_enter Tryz.func77, Tryz.ntmps77
  go_wp2_with fail
  go_loopw [8] (fun s8 wr => ∃ k : Nat, k ≤ zs.length ∧ s8 = .int .i64 k ∧ (zs.take k).all (fun x => !eqL x n) = true ∧ wr.heap[w.heap.size]? = some (.cells (lV n) 42 (0, 0)) ∧ Below w.heap.size w wr) (fun s8 _ => zs.length - (intOf s8).toNat)
  case atStart => exact ⟨0, Nat.zero_le _, rfl, by simp, HN.out, HB.out⟩
  case round =>
    clear HN HB
    obtain ⟨k, hk, rfl, hall, hN, hB⟩ := hrel
    have HA := Lib.hid hall
    have HN := Lib.hid hN
    have HB := Lib.hid hB
    clear hall hN hB
    by_cases hlt : k < zs.length
    · obtain ⟨b, off, x, rfl, hlb, hx, c0, c1, c2, c3⟩ := (HZ.out.below HB.out (Nat.le_refl _)).at_ hlt
      obtain ⟨d0, d1, d2, d3⟩ := boxL_cells HN.out
      have HX := Lib.hid hx
      have r1 := run_eqL n x
      clear hx
      cases hn : eqL n x
      · have HNn := Lib.hid (all_snoc (f := fun x => !eqL x n) HA.out HX.out (by rw [eqL_comm, hn]; rfl))
        rw [hn] at r1
        clear hn
        go_wp2_with fail
        go_quiet (fail)
        go_wp2_with fail
        go_roundw
        case rel => exact ⟨k + 1, by omega, by go_num, HNn.out, HN.out, below_drewN7 HB.out _⟩
        case measure => simp [intOf]; omega
      · have HI := Lib.hid (idxF_at (F := fun x => eqL x n) HA.out HX.out (by rw [eqL_comm]; exact hn))
        rw [hn] at r1
        clear hn
        go_wp2_with fail
        go_quiet (fail)
        go_wp2_with fail
        go_ret
        exact ⟨ret_int HI.out.symm, below_drewN7 HB.out _⟩
    · have HI := Lib.hid (idxF_none (F := fun x => eqL x n) (all_whole HA.out hlt))
      go_wp2_with fail
      go_ret
      exact ⟨ret_int HI.out.symm, HB.out⟩
theorem idx_hasL (zs : List L) (n : L) : decide (0 ≤ idxF (fun x => eqL x n) zs) = zs.any (fun x => eqL x n) := by
  rcases idxF_cases (fun x => eqL x n) zs with ⟨h1, h2⟩ | ⟨k, x, h1, h2, h3, _⟩
  · rw [h1]
    have : zs.any (fun x => eqL x n) = false := by
      cases h : zs.any (fun x => eqL x n)
      · rfl
      · obtain ⟨x, hx, hxn⟩ := List.any_eq_true.1 h
        have := List.filter_eq_self.1 h2 x hx
        rw [hxn] at this
        cases this
    rw [this]
    rfl
  · rw [h1]
    have : zs.any (fun x => eqL x n) = true := List.any_eq_true.2 ⟨x, mem_of_get h2, h3⟩
    rw [this]
    simp

set_option maxHeartbeats 400000 in
theorem containsL_any (a : Option Addr) (c : Nat) (zs : List L) (n : L) (w : World) (hz : LinesAt w a zs) (hm : zs.length ≤ 10000) :
    Calls Tryz.prog 52 #[.slice a zs.length c, lv n] w fun e w' => e = .returned (.bool (zs.any fun x => eqL x n)) ∧ Below w.heap.size w w' := by
  rw [← idx_hasL]
  have hb : Below w.heap.size w (w.alloc (.cells #[.int .i64 n.op, .int .i64 n.to, .int .i64 n.a, .int .i64 n.b] 42)) := (Below.refl _ _).alloc (Nat.le_refl _) _
  have HI := Lib.hid (indexL_any a c zs n _ (hz.below hb (Nat.le_refl _)) hm)
  have HB := Lib.hid hb
  clear hz hb
  unfold lv at HI ⊢
  generalize idxF (fun x => eqL x n) zs = r at HI ⊢
  go_enter Tryz.func52, Tryz.ntmps52
  go_wp2_with fail
  refine HI.out.mono ?_
  rintro e w1 ⟨rfl, hB1⟩
  go_wp2_with fail
  go_ret
  exact ⟨rfl, HB.out.trans (hB1.mono HB.out.size)⟩

end Go.Proofs.YtfclfmloceddfaaGreat
