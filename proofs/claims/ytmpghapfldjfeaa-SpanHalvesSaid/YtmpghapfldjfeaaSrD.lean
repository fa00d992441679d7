/- Halves of the document: contract. -/
import Derived.Test.YtmpghapfldjfeaaSrC
set_option linter.unusedVariables false
set_option linter.unusedSimpArgs false
namespace Go.Proofs.Ytmpghapfldjfeaa
open Go.RowKit Tinker

theorem lset_same {α : Type} {l : List α} {i : Nat} {x : α} (h : l[i]? = some x) : l.set i x = l := by
  apply List.ext_getElem?
  intro j
  by_cases e : i = j
  · subst e; rw [List.getElem?_set_self (List.getElem?_eq_some_iff.1 h).1, h]
  · rw [List.getElem?_set_ne e]
theorem gc_setHi {b : List Rg} {i : Nat} {x : Rg} (h : b[i]? = some x) (m : Int) : gc (b.set i ⟨x.lo, m⟩) = (gc b).set (i * 2 + 1) (.int .i64 m) := by
  rw [gc_set _ (List.getElem?_eq_some_iff.1 h).1]
  rw [lset_same (gc_get h).1]
theorem gc_setLo {b : List Rg} {i : Nat} {x : Rg} (h : b[i]? = some x) (m : Int) : gc (b.set i ⟨m, x.hi⟩) = (gc b).set (i * 2) (.int .i64 m) := by
  rw [gc_set _ (List.getElem?_eq_some_iff.1 h).1]
  exact lset_same (by rw [List.getElem?_set_ne (by omega)]; exact (gc_get h).2)

theorem own_set_ne {w : World} {base g g' n size c : Nat} {e : TypeId} {xs : List Value} (h : w.ownsRow base e size (.slice (some ⟨g, 0, none⟩) n c) n xs) (hne : g ≠ g') (j : Nat) (u : Value) : (w.setCell ⟨g', j, none⟩ u).ownsRow base e size (.slice (some ⟨g, 0, none⟩) n c) n xs := by
  refine ⟨h.1, ?_⟩
  rcases h.2 with hn | ⟨b, cap, cur, hv, hb, hx, rest⟩
  · exact .inl hn
  · injection hv with hv1 _ hv3
    injection hv1 with hv1
    injection hv1 with hv1
    subst hv1
    exact .inr ⟨g, cap, cur, by rw [hv3], hb, hp_set hx (by show g ≠ g'; exact hne) _, rest⟩

set_option maxRecDepth 100000 in
set_option maxHeartbeats 4000000 in
theorem rHalves_any (a : Option Addr) (ca : Nat) (b : List Rg) (r : Int) (w : World) (hb : RangesAt w a b) (hc : a = none → ca = 0) :
    Calls Try.prog 58 #[.slice a b.length ca, .int .i64 r] w (GivesRg2 (hvL b r) (hvH b r) (hvC b r) w) := by
  have H1 := Lib.hid (fun w h => rValidate6_any a ca b w h)
  have HR := Lib.hid hb
  have HBT := Lib.hid (show btw r 0 3 = isReg r from rfl)
  rcases vb_cases b with z1 | z1
  · have hok := vb_ok z1
    have h4 := hok.l4
    rw [z1, h4] at H1
    cases hr : isReg r
    · have hcc : hvC b r = 1 := by unfold hvC; rw [z1, hr]; rfl
      rw [show hvL b r = [] by unfold hvL; rw [hcc]; rfl, show hvH b r = [] by unfold hvH; rw [hcc]; rfl, hcc, h4]
      rw [hr] at HBT
      clear z1 hok h4 hb hr hcc hc
      go_enter Try.func58, Try.ntmps58
      go_wp2_with fail
      refine (H1.out _ HR.out).mono ?_
      rintro e w1 ⟨rfl, hB⟩
      have HB := Lib.hid hB
      clear hB
      go_wp2_with fail
      refine (rWithin6_any _ _ _ _).mono ?_
      rintro e w0 ⟨rfl, rfl⟩
      rw [HBT.out]
      go_wp2_with fail
      go_ret3
      exact givesRg2_nil HB.out
    · obtain ⟨r0, r3⟩ := isReg_iff.1 hr
      obtain ⟨k, rfl⟩ : ∃ k : Nat, r = (k : Int) := ⟨r.toNat, by omega⟩
      rw [hr] at HBT
      have hk : k < 4 := by omega
      obtain ⟨g, off, x, rfl, hlb, hx, c0, c1⟩ := hb.at_ (show k < b.length by rw [h4]; exact hk)
      have hg : gAt b (k : Int) = x := by unfold gAt; rw [Int.toNat_natCast, getD_of_get hx]
      obtain ⟨⟨o1, o2⟩, ⟨o3, o4⟩, o5⟩ := okG_iff.1 (hok.ok x (mem_of_get hx))
      have hk1 : (k : Int) < 4 := by omega
      by_cases he : x.lo = x.hi
      · have hcc : hvC b k = 6 := by unfold hvC; rw [z1, hr, hg, if_pos (show fe 0 (if (true : Bool) = true then 0 else 1) = 0 from rfl), if_pos (by omega)]
        rw [show hvL b k = [] by unfold hvL; rw [hcc]; rfl, show hvH b k = [] by unfold hvH; rw [hcc]; rfl, hcc, h4]
        have he1 : (x.lo == x.hi) = true := by simpa using he
        clear z1 hok h4 hb hr hcc hc hg he hx
        go_enter Try.func58, Try.ntmps58
        go_wp2_with fail
        refine (H1.out _ HR.out).mono ?_
        rintro e w1 ⟨rfl, hB⟩
        have HB := Lib.hid hB
        clear hB
        have c0 := (HB.out.cell (p := ⟨g, _, none⟩) hlb).trans c0
        have c1 := (HB.out.cell (p := ⟨g, _, none⟩) hlb).trans c1
        go_wp2_with fail
        refine (rWithin6_any _ _ _ _).mono ?_
        rintro e w0 ⟨rfl, rfl⟩
        rw [HBT.out]
        go_wp2_with fail
        go_ret3
        exact givesRg2_nil (HB.out.alloc HB.out.size _)
      · have hcc : hvC b k = 0 := by unfold hvC; rw [z1, hr, hg, if_pos (show fe 0 (if (true : Bool) = true then 0 else 1) = 0 from rfl), if_neg (by omega)]
        have hL : hvL b k = b.set k ⟨x.lo, (x.lo + x.hi) / 2⟩ := by unfold hvL; rw [hcc, if_pos rfl]; unfold loH; rw [hg, Int.toNat_natCast]
        have hH : hvH b k = b.set k ⟨(x.lo + x.hi) / 2 + 1, x.hi⟩ := by unfold hvH; rw [hcc, if_pos rfl]; unfold hiH; rw [hg, Int.toNat_natCast]
        rw [hL, hH, hcc, h4]
        have HHV := Lib.hid (fun w => rHalf_any (x.lo + x.hi) w (by omega) (by omega))
        have HLo := Lib.hid (gc_setHi hx ((x.lo + x.hi) / 2))
        have HHi := Lib.hid (gc_setLo hx ((x.lo + x.hi) / 2 + 1))
        have he1 : (x.lo == x.hi) = false := by simpa using he
        have m1 : (x.lo + x.hi) / 2 ≤ 999 := by omega
        have m2 : -999 ≤ (x.lo + x.hi) / 2 := by omega
        have HX := Lib.hid hx
        have H4 := Lib.hid h4
        generalize (x.lo + x.hi) / 2 = m at *
        have s1 : -2000 ≤ x.lo + x.hi := by omega
        have s2 : x.lo + x.hi ≤ 2000 := by omega
        clear z1 hok hb hr hcc hg he hx hL hH h4
        go_enter Try.func58, Try.ntmps58
        go_wp2_with fail
        refine (H1.out _ HR.out).mono ?_
        rintro e w1 ⟨rfl, hB⟩
        have HB := Lib.hid hB
        clear hB
        have c0 := (HB.out.cell (p := ⟨g, _, none⟩) hlb).trans c0
        have c1 := (HB.out.cell (p := ⟨g, _, none⟩) hlb).trans c1
        go_wp2_with fail
        refine (rWithin6_any _ _ _ _).mono ?_
        rintro e w0 ⟨rfl, rfl⟩
        rw [HBT.out]
        have HT := Lib.hid (hp_new (w := w1) (o := .cells #[.int .i64 x.lo, .int .i64 x.hi] 39 (0, 0)) rfl)
        have HBA := Lib.hid (HB.out.alloc HB.out.size (.cells #[.int .i64 x.lo, .int .i64 x.hi] 39 (0, 0)))
        have hbw := HB.out.size
        have hown := World.ownsRow_lit (base := w1.heap.size + 1) (e := 39) (size := 2) (w1.alloc (.cells #[.int .i64 x.lo, .int .i64 x.hi] 39 (0, 0))) #[] 0 (by simp) (by simp [maxLen]) (by simp)
        simp only [World.size_alloc] at hown
        go_wp2_with (at_builtin; (refine wpList_append_rg rfl (.tmp 28) (.tmp 29) rfl (w1.heap.size + 1) _ [] rfl hown _ ca b (by rw [H4.out]; rfl) (HR.out.below ((HBA.out.alloc (by simp; omega) _)) (Nat.le_refl _)) hc (by rw [H4.out]; simp) (by simp) ?_))
        intro v1 w2 R1 HQ1 hown1 hgrow1
        have HBB := Lib.hid (hgrow1 (w1.heap.size + 1) _ ((Below.refl _ (w1.alloc (.cells #[.int .i64 x.lo, .int .i64 x.hi] 39 (0, 0)))).alloc (by simp) _) (Nat.le_refl _))
        have HB2 := Lib.hid (HBA.out.trans (HBB.out.mono (by omega)))
        have HT2 := Lib.hid (hp_below HT.out HBB.out (by omega))
        have hR1 : R1 = b := HQ1.out
        subst hR1
        obtain ⟨a1', k1, rfl⟩ := own_slice hown1
        obtain ⟨g1, rfl⟩ := own_form hown1 (by rw [H4.out]; omega)
        have HO1 := Lib.hid hown1
        have HG1 := Lib.hid (own_lt hown1)
        have HG1b := Lib.hid (own_base' hown1)
        clear hown1 hgrow1 hown c0 c1 HBB
        have hb2 := HB2.out.size
        have hown := World.ownsRow_lit (base := w2.heap.size) (e := 39) (size := 2) w2 #[] 0 (Nat.le_refl _) (by simp [maxLen]) (by simp)
        go_wp2_with (at_builtin; (refine wpList_append_rg rfl (.tmp 31) (.tmp 32) rfl w2.heap.size _ [] rfl hown _ ca R1 (by rw [H4.out]; rfl) (HR.out.below (HB2.out.alloc hb2 _) (Nat.le_refl _)) hc (by rw [H4.out]; simp) (by simp) ?_))
        intro v2 w3 R2 HQ2 hown2 hgrow2
        have HBB := Lib.hid (hgrow2 w2.heap.size _ ((Below.refl _ w2).alloc (Nat.le_refl _) _) (Nat.le_refl _))
        have HB3 := Lib.hid (HB2.out.trans (HBB.out.mono hb2))
        have HT3 := Lib.hid (hp_below HT2.out HBB.out (hp_lt HT2.out))
        have HO1 := Lib.hid (own_below HO1.out HBB.out (Nat.le_refl _))
        have hR2 : R2 = R1 := HQ2.out
        subst hR2
        obtain ⟨a2', k2, rfl⟩ := own_slice hown2
        obtain ⟨g2, rfl⟩ := own_form hown2 (by rw [H4.out]; omega)
        have HO2 := Lib.hid hown2
        have HNE := Lib.hid (show g1 ≠ g2 by have := own_base' hown2; have := HG1.out; omega)
        have HG2b := Lib.hid (own_base' hown2)
        have HTN := Lib.hid (show g1 ≠ w1.heap.size ∧ g2 ≠ w1.heap.size by have := own_base' hown2; have := HG1b.out; have := hp_lt HT2.out; omega)
        clear hown2 hgrow2 hown HBB HT2 HB2 hb2
        rw [H4.out] at HO1 HO2
        have hkR : (k : Int) < (R2.length : Int) := by rw [H4.out]; omega
        have hx4 := HX.out
        have p1 : (gc R2)[k * 2 + 1]? = some (.int .i64 x.hi) := (gc_get hx4).2
        have p0 : (gc R2)[k * 2]? = some (.int .i64 x.lo) := (gc_get hx4).1
        have z0 := hp_cell HT3.out (j := 0) (by rfl)
        have z1 := hp_cell HT3.out (j := 1) (by rfl)
        have y1 := own_cell HO1.out p1
        have fr1 := own_free HO1.out (k * 2 + 1)
        clear hx4
        go_wp2_with fail
        refine (HHV.out _).mono ?_
        rintro e w0 ⟨rfl, rfl⟩
        have HO1b := Lib.hid (own_setCell HO1.out (k * 2 + 1) (.int .i64 m))
        have HO2b := Lib.hid (own_set_ne HO2.out (Ne.symm HNE.out) (k * 2 + 1) (.int .i64 m))
        have HT4 := Lib.hid (hp_set HT3.out (p := ⟨g1, k * 2 + 1, none⟩) (Ne.symm HTN.out.1) (.int .i64 m))
        have HB4 := Lib.hid (HB3.out.setCell (p := ⟨g1, k * 2 + 1, none⟩) (by have := HG1b.out; show w.heap.size ≤ g1; omega) (.int .i64 m))
        have zz0 := hp_cell HT4.out (j := 0) (by rfl)
        have zz1 := hp_cell HT4.out (j := 1) (by rfl)
        have yy0 := own_cell HO2b.out p0
        have ffr2 := own_free HO2b.out (k * 2)
        clear z0 z1
        go_wp2_with fail
        refine (HHV.out _).mono ?_
        rintro e w0 ⟨rfl, rfl⟩
        go_wp2_with fail
        go_ret3
        refine ⟨some ⟨g1, 0, none⟩, some ⟨g2, 0, none⟩, k1, k2, ?_, ?_, ?_, ?_⟩
        · rw [List.length_set, List.length_set]; rfl
        · refine (ranges_of_own (base := w1.heap.size + 1) (e := 39) (n := 4) (c := k1) ?_).1
          rw [HLo.out]
          exact own_set_ne HO1b.out HNE.out _ _
        · refine (ranges_of_own (base := w2.heap.size) (e := 39) (n := 4) (c := k2) ?_).1
          rw [HHi.out]
          exact own_setCell HO2b.out _ _
        · exact HB4.out.setCell (p := ⟨g2, k * 2, none⟩) (by show w.heap.size ≤ g2; have := HG2b.out; have := HG1.out; have := HG1b.out; omega) _
  · have hcc : hvC b r = 1 := by unfold hvC fe; rw [z1]; rfl
    rw [show hvL b r = [] by unfold hvL; rw [hcc]; rfl, show hvH b r = [] by unfold hvH; rw [hcc]; rfl, hcc]
    rw [z1] at H1
    clear z1 hb hcc hc
    go_enter Try.func58, Try.ntmps58
    go_wp2_with fail
    refine (H1.out _ HR.out).mono ?_
    rintro e w1 ⟨rfl, hB⟩
    have HB := Lib.hid hB
    clear hB
    go_wp2_with fail
    go_ret3
    exact givesRg2_nil HB.out

end Go.Proofs.Ytmpghapfldjfeaa
