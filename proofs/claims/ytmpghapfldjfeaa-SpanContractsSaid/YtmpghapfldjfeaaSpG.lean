/- The boxes of all lines in memory; receive: contract. -/
import Derived.Test.YtmpghapfldjfeaaSpC
import Derived.Test.YtmpghapfldjfeaaOff
set_option linter.unusedVariables false
set_option linter.unusedSimpArgs false
namespace Go.Proofs.Ytmpghapfldjfeaa
open Go.RowKit Tinker

/-- Cells that are written one after another. -/
def puts (cs : Array Value) (o : Nat) : List Value → Array Value
  | [] => cs
  | v :: r => puts (cs.setIfInBounds o v) (o + 1) r
theorem hp_puts {g : Nat} {t : TypeId} : ∀ (vs : List Value) (o : Nat) {w : World} {cs : Array Value}, w.heap[g]? = some (.cells cs t (0, 0)) → (w.setCells g o vs).heap[g]? = some (.cells (puts cs o vs) t (0, 0))
  | [], o, w, cs, h => h
  | v :: r, o, w, cs, h => hp_puts r (o + 1) (hp_put h o v)
theorem puts_mid : ∀ (vs A B C : List Value), vs.length = B.length → puts (A ++ B ++ C).toArray A.length vs = (A ++ vs ++ C).toArray
  | [], A, B, C, h => by
    have : B = [] := List.eq_nil_of_length_eq_zero (by simpa using h.symm)
    subst this; rfl
  | v :: r, A, B, C, h => by
    match B, h with
    | b :: B', h =>
      have ih := puts_mid r (A ++ [v]) B' C (by simpa using h)
      unfold puts
      rw [show (A ++ b :: B' ++ C).toArray.setIfInBounds A.length v = (A ++ [v] ++ B' ++ C).toArray by simp]
      rw [show A.length + 1 = (A ++ [v]).length by simp, ih]
      simp
/-- The cells of what is known of one line. -/
def lbc (x : Option (List Rg)) : List Value := match x with
  | none => .bool false :: List.replicate 8 (.int .i64 0)
  | some b => .bool true :: gc b
def sc (st : List (Option (List Rg))) : List Value := st.flatMap lbc
/-- All boxes have four ranges. -/
def L4 (st : List (Option (List Rg))) : Prop := ∀ k b, st.getD k none = some b → b.length = 4
theorem lbc_len {x : Option (List Rg)} (h : ∀ b, x = some b → b.length = 4) : (lbc x).length = 9 := by
  cases x with
  | none => rfl
  | some b => unfold lbc; rw [List.length_cons, gc_length, h b rfl]
theorem sc_split : ∀ {st : List (Option (List Rg))} {j : Nat}, L4 st → j < st.length → ∃ A C, sc st = A ++ lbc (st.getD j none) ++ C ∧ A.length = j * 9 ∧ ∀ y, sc (st.set j y) = A ++ lbc y ++ C
  | [], j, h, hj => by simp at hj
  | x :: q, 0, h, hj => ⟨[], sc q, by simp [sc], rfl, fun y => by simp [sc]⟩
  | x :: q, j + 1, h, hj => by
    obtain ⟨A, C, h1, h2, h3⟩ := sc_split (st := q) (j := j) (fun k b hk => h (k + 1) b (by simpa using hk)) (by simpa using hj)
    have h9 := lbc_len (x := x) (fun b hb => h 0 b (by simpa using hb))
    refine ⟨lbc x ++ A, C, ?_, by rw [List.length_append, h9, h2]; omega, fun y => ?_⟩
    · show lbc x ++ sc q = _
      rw [h1]; simp
    · show lbc x ++ sc (q.set j y) = _
      rw [h3 y]; simp
theorem sc_length : ∀ {st : List (Option (List Rg))}, L4 st → (sc st).length = st.length * 9
  | [], h => rfl
  | x :: q, h => by
    have h9 := lbc_len (x := x) (fun b hb => h 0 b (by simpa using hb))
    show (lbc x ++ sc q).length = _
    rw [List.length_append, h9, sc_length (st := q) (fun k b hk => h (k + 1) b (by simpa using hk)), List.length_cons]; omega
theorem sc_get {st : List (Option (List Rg))} {j : Nat} (h : L4 st) (hj : j < st.length) {i : Nat} {v : Value} (hv : (lbc (st.getD j none))[i]? = some v) : (sc st).toArray[j * 9 + i]? = some v := by
  obtain ⟨A, C, h1, h2, _⟩ := sc_split h hj
  rw [h1]
  have hi := (List.getElem?_eq_some_iff.1 hv).1
  simp only [List.getElem?_toArray]
  rw [List.append_assoc, List.getElem?_append_right (by omega), List.getElem?_append_left (by omega), h2]
  rw [show j * 9 + i - j * 9 = i by omega]; exact hv
theorem sc_puts {st : List (Option (List Rg))} {j : Nat} (h : L4 st) (hj : j < st.length) {y : Option (List Rg)} (hy : ∀ b, y = some b → b.length = 4) : puts (sc st).toArray (j * 9) (lbc y) = (sc (st.set j y)).toArray := by
  obtain ⟨A, C, h1, h2, h3⟩ := sc_split h hj
  rw [h1, h3 y, ← h2]
  exact puts_mid _ _ _ _ (by rw [lbc_len hy, lbc_len (fun b hb => h j b hb)])

theorem info_lb : (Try.prog.info? 115).map (·.size) = some 9 := by kernel_rfl
theorem one9 (x : Bool) (a b c d e f g h : Int) : (#[.bool x, .int .i64 a, .int .i64 b, .int .i64 c, .int .i64 d, .int .i64 e, .int .i64 f, .int .i64 g, .int .i64 h] : Array Value).all (·.oneCell') = true := by simp [Value.oneCell']

set_option maxRecDepth 100000 in
set_option maxHeartbeats 4000000 in
theorem receive_any (g j : Nat) (st : List (Option (List Rg))) (b : List Rg) (w : World) (hg : w.heap[g]? = some (.cells (sc st).toArray 115 (0, 0))) (h4 : L4 st) (hj : j < st.length) (hb : b.length = 4) :
    Calls Try.prog 125 #[.pointer (some ⟨g, j * 9, none⟩), bx b] w fun e w' => e = .returned (.tuple #[]) ∧ w'.heap[g]? = some (.cells (sc (recv st j b)).toArray 115 (0, 0)) ∧ Off g w w' := by
  have HG := Lib.hid hg
  have HJ := Lib.hid (fun a ha => joinHull_any a b · ha hb)
  have HSP := Lib.hid (fun y hy => sc_puts h4 hj (y := y) hy)
  have HGE := Lib.hid (fun i v hv => sc_get h4 hj (i := i) (v := v) hv)
  have hlg := hp_lt hg
  have hgne : g ≠ w.heap.size := by omega
  have HSZ := Lib.hid (show j * 9 + 9 ≤ (sc st).toArray.size by rw [List.size_toArray, sc_length h4]; omega)
  have HRV : Hid (recv st j b = st.set j (some (match st.getD j none with | none => b | some y => hullB y b))) := Lib.hid rfl
  have H4 := Lib.hid (fun y => h4 j y)
  rw [HRV.out]
  obtain ⟨o, ho⟩ : ∃ o, o = j * 9 := ⟨_, rfl⟩
  rw [← ho] at HSP HGE HSZ ⊢
  cases hq : st.getD j none with
  | none =>
    rw [hq] at HGE
    obtain ⟨x0, x1, x2, x3, rfl⟩ := rg_list4 hb
    rw [bx_4]
    have c0 : w.cell? ⟨g, o, none⟩ = some (.bool false) := hp_cell hg (HGE.out 0 _ rfl)
    clear hg h4 hj hb hq HJ HGE ho HRV H4
    go_enter Try.func125, Try.ntmps125
    go_wp2_with (first | (refine wpList_store_mid rfl 115 (.tmp 19) (.tmp 18) rfl g o _ rfl rfl (there_of (hp_alloc HG.out) HSZ.out) info_lb (one9 _ _ _ _ _ _ _ _ _) ?_))
    refine bodyPost_end (results_none rfl _ _ _) rfl ?_
    refine ⟨rfl, ?_, ?_⟩
    · rw [← HSP.out (some [x0, x1, x2, x3]) (fun b hb => by injection hb with e; subst e; rfl)]; exact hp_puts _ _ (hp_alloc HG.out)
    · exact (Off.low ((Below.refl _ _).alloc (Nat.le_refl _) _)).trans (Off.setCells _ _ _ _)
  | some y =>
    have hy := H4.out y hq
    rw [hq] at HGE
    replace HJ := Lib.hid (fun w => HJ.out w y hy) 
    obtain ⟨x0, x1, x2, x3, rfl⟩ := rg_list4 hb
    obtain ⟨y0, y1, y2, y3, rfl⟩ := rg_list4 hy
    rw [show hullB [y0, y1, y2, y3] [x0, x1, x2, x3] = [hullG y0 x0, hullG y1 x1, hullG y2 x2, hullG y3 x3] from rfl, bx_4, bx_4, bx_4] at HJ
    show Calls _ _ _ _ fun e w' => e = .returned (.tuple #[]) ∧ w'.heap[g]? = some (.cells (sc (st.set j (some [hullG y0 x0, hullG y1 x1, hullG y2 x2, hullG y3 x3]))).toArray 115 (0, 0)) ∧ Off g w w'
    rw [bx_4]
    have c0 : w.cell? ⟨g, o, none⟩ = some (.bool true) := hp_cell hg (HGE.out 0 _ rfl)
    have HNE := Lib.hid hgne
    clear hg h4 hj hb hq ho HRV H4 hy
    go_enter Try.func125, Try.ntmps125
    go_upto_region 2 with fail
    have HG1 := Lib.hid (hp_alloc (o' := .cells #[.int .i64 x0.lo, .int .i64 x0.hi, .int .i64 x1.lo, .int .i64 x1.hi, .int .i64 x2.lo, .int .i64 x2.hi, .int .i64 x3.lo, .int .i64 x3.hi] 78 (0, 0)) HG.out)
    have HP1 := Lib.hid (hp_new (w := w) (o := .cells #[.int .i64 x0.lo, .int .i64 x0.hi, .int .i64 x1.lo, .int .i64 x1.hi, .int .i64 x2.lo, .int .i64 x2.hi, .int .i64 x3.lo, .int .i64 x3.hi] 78 (0, 0)) rfl)
    have HBW := Lib.hid ((Below.refl w.heap.size w).alloc (Nat.le_refl _) (.cells #[.int .i64 x0.lo, .int .i64 x0.hi, .int .i64 x1.lo, .int .i64 x1.hi, .int .i64 x2.lo, .int .i64 x2.hi, .int .i64 x3.lo, .int .i64 x3.hi] 78 (0, 0)))
    have HPW := Lib.hid (Nat.le_refl w.heap.size)
    generalize hW1 : (w.alloc (.cells #[.int .i64 x0.lo, .int .i64 x0.hi, .int .i64 x1.lo, .int .i64 x1.hi, .int .i64 x2.lo, .int .i64 x2.hi, .int .i64 x3.lo, .int .i64 x3.hi] 78 (0, 0))) = W1 at HG1 HP1 HBW ⊢
    clear hW1
    obtain ⟨P, hP⟩ : ∃ P, P = w.heap.size := ⟨_, rfl⟩
    rw [← hP] at HP1 HNE ⊢
    replace HPW := Lib.hid (show w.heap.size ≤ P by rw [hP]; exact Nat.le_refl _)
    clear hP c0
    refine wp_region_held_drew (S := (fun W => W.heap[g]? = some (.cells (sc st).toArray 115 (0, 0)))) (by kernel_rfl) ?_ (fun hHeld => ?_)
    · exact hp_drew HG1.out
    refine wpAnyH_take (i := 0) (oi := ?oiq1) (v := ?vq1) ?hiq1 (by kernel_rfl) (by kernel_rfl) (by kernel_rfl) ?hqq1 ?hyq1 hHeld ?restq1
    case hiq1 => exact rfl
    case hqq1 => exact fun _ _ _ h => h
    case hyq1 =>
      refine Or.inl ⟨by rfl, ?_⟩
      intro w hSw
      go_simp
      (try with_reducible rfl)
    try simp only [Act.put, List.getElem_toArray, List.getElem_cons_succ, List.getElem_cons_zero, List.setIfInBounds_toArray, List.set_cons_zero, List.set_cons_succ]
    refine wpAnyH_take (i := 1) (oi := ?oiq2) (v := ?vq2) ?hiq2 (by kernel_rfl) (by kernel_rfl) (by kernel_rfl) ?hqq2 ?hyq2 hHeld ?restq2
    case hiq2 => exact rfl
    case hqq2 => exact fun _ _ _ h => h
    case hyq2 =>
      refine Or.inl ⟨by rfl, ?_⟩
      intro w hSw
      go_simp
      (try with_reducible rfl)
    try simp only [Act.put, List.getElem_toArray, List.getElem_cons_succ, List.getElem_cons_zero, List.setIfInBounds_toArray, List.set_cons_zero, List.set_cons_succ]
    refine wpAnyH_take (i := 2) (oi := ?oiq3) (v := ?vq3) ?hiq3 (by kernel_rfl) (by kernel_rfl) (by kernel_rfl) ?hqq3 ?hyq3 hHeld ?restq3
    case hiq3 => exact rfl
    case hqq3 => exact fun _ _ _ h => h
    case hyq3 =>
      refine Or.inl ⟨by rfl, ?_⟩
      intro w hSw
      go_simp
      (try with_reducible rfl)
    try simp only [Act.put, List.getElem_toArray, List.getElem_cons_succ, List.getElem_cons_zero, List.setIfInBounds_toArray, List.set_cons_zero, List.set_cons_succ]
    refine wpAnyH_take (i := 3) (oi := ?oiq4) (v := (.agg #[.int .i64 y0.lo, .int .i64 y0.hi, .int .i64 y1.lo, .int .i64 y1.hi, .int .i64 y2.lo, .int .i64 y2.hi, .int .i64 y3.lo, .int .i64 y3.hi])) ?hiq4 (by kernel_rfl) (by kernel_rfl) (by kernel_rfl) ?hqq4 ?hyq4 hHeld ?restq4
    case hiq4 => exact rfl
    case hqq4 => exact fun _ _ _ h => h
    case hyq4 =>
      refine Or.inl ⟨by rfl, ?_⟩
      intro w hSw
      have z0 : w.cell? ⟨g, o + 1, none⟩ = some (.int .i64 y0.lo) := hp_cell hSw (HGE.out 1 _ rfl)
      have z1 : w.cell? ⟨g, o + 1 + 1, none⟩ = some (.int .i64 y0.hi) := hp_cell hSw (HGE.out 2 _ rfl)
      have z2 : w.cell? ⟨g, o + 1 + 2, none⟩ = some (.int .i64 y1.lo) := hp_cell hSw (HGE.out 3 _ rfl)
      have z3 : w.cell? ⟨g, o + 1 + 3, none⟩ = some (.int .i64 y1.hi) := hp_cell hSw (HGE.out 4 _ rfl)
      have z4 : w.cell? ⟨g, o + 1 + 4, none⟩ = some (.int .i64 y2.lo) := hp_cell hSw (HGE.out 5 _ rfl)
      have z5 : w.cell? ⟨g, o + 1 + 5, none⟩ = some (.int .i64 y2.hi) := hp_cell hSw (HGE.out 6 _ rfl)
      have z6 : w.cell? ⟨g, o + 1 + 6, none⟩ = some (.int .i64 y3.lo) := hp_cell hSw (HGE.out 7 _ rfl)
      have z7 : w.cell? ⟨g, o + 1 + 7, none⟩ = some (.int .i64 y3.hi) := hp_cell hSw (HGE.out 8 _ rfl)
      go_simp
      (try with_reducible rfl)
    try simp only [Act.put, List.getElem_toArray, List.getElem_cons_succ, List.getElem_cons_zero, List.setIfInBounds_toArray, List.set_cons_zero, List.set_cons_succ]
    refine wpAnyH_ready (rs := [4]) (by kernel_rfl) (by simp) ?_
    refine AllReadyH.cons (o := ?or7_4) ?hr7_4 ?kr7_4 AllReadyH.nil
    case hr7_4 => exact rfl
    case kr7_4 =>
      intro K hK
      have u0 : W1.cell? ⟨P, 0, none⟩ = some (.int .i64 x0.lo) := hp_cell HP1.out (by rfl)
      have u1 : W1.cell? ⟨P, 1, none⟩ = some (.int .i64 x0.hi) := hp_cell HP1.out (by rfl)
      have u2 : W1.cell? ⟨P, 2, none⟩ = some (.int .i64 x1.lo) := hp_cell HP1.out (by rfl)
      have u3 : W1.cell? ⟨P, 3, none⟩ = some (.int .i64 x1.hi) := hp_cell HP1.out (by rfl)
      have u4 : W1.cell? ⟨P, 4, none⟩ = some (.int .i64 x2.lo) := hp_cell HP1.out (by rfl)
      have u5 : W1.cell? ⟨P, 5, none⟩ = some (.int .i64 x2.hi) := hp_cell HP1.out (by rfl)
      have u6 : W1.cell? ⟨P, 6, none⟩ = some (.int .i64 x3.lo) := hp_cell HP1.out (by rfl)
      have u7 : W1.cell? ⟨P, 7, none⟩ = some (.int .i64 x3.hi) := hp_cell HP1.out (by rfl)
      go_simp
      refine hK.out _ _ (hp_drew HG1.out) (fun hHeld => ?_)
      clear hK K
      try simp only [Act.put, List.getElem_toArray, List.getElem_cons_succ, List.getElem_cons_zero, List.setIfInBounds_toArray, List.set_cons_zero, List.set_cons_succ]
      refine wpAnyH_ready (rs := [5]) (by kernel_rfl) (by simp) ?_
      refine AllReadyH.cons (o := ?or6_5) ?hr6_5 ?kr6_5 AllReadyH.nil
      case hr6_5 => exact rfl
      case kr6_5 =>
        intro K hK
        go_simp
        refine (HJ.out _).mono ?_
        rintro e wa ⟨rfl, hBa⟩
        have HA := Lib.hid hBa
        clear hBa
        refine hK.out _ _ (hp_below (hp_drew HG1.out) HA.out (hp_lt HG1.out)) (fun hHeld => ?_)
        clear hK K
        try simp only [Act.put, List.getElem_toArray, List.getElem_cons_succ, List.getElem_cons_zero, List.setIfInBounds_toArray, List.set_cons_zero, List.set_cons_succ]
        refine wpAnyH_ready (rs := [6]) (by kernel_rfl) (by simp) ?_
        refine AllReadyH.cons (o := ?or5_6) ?hr5_6 ?kr5_6 AllReadyH.nil
        case hr5_6 => exact rfl
        case kr5_6 =>
          intro K hK
          have HP2 := Lib.hid (hp_below (hp_drew HP1.out) HA.out (hp_lt HP1.out))
          have HG2 := Lib.hid (hp_below (hp_drew HG1.out) HA.out (hp_lt HG1.out))
          refine wp_store_row 78 (.tmp 3) (.tmp 14) rfl P _ rfl rfl 78 _ HP2.out info_box rfl (one8 _ _ _ _ _ _ _ _) ?_
          have hHG3 : (wa.setRow P #[.int .i64 (hullG y0 x0).lo, .int .i64 (hullG y0 x0).hi, .int .i64 (hullG y1 x1).lo, .int .i64 (hullG y1 x1).hi, .int .i64 (hullG y2 x2).lo, .int .i64 (hullG y2 x2).hi, .int .i64 (hullG y3 x3).lo, .int .i64 (hullG y3 x3).hi]).heap[g]? = some (.cells (sc st).toArray 115 (0, 0)) := hp_row HG2.out HNE.out _
          have hHP3 : (wa.setRow P #[.int .i64 (hullG y0 x0).lo, .int .i64 (hullG y0 x0).hi, .int .i64 (hullG y1 x1).lo, .int .i64 (hullG y1 x1).hi, .int .i64 (hullG y2 x2).lo, .int .i64 (hullG y2 x2).hi, .int .i64 (hullG y3 x3).lo, .int .i64 (hullG y3 x3).hi]).heap[P]? = some (.cells #[.int .i64 (hullG y0 x0).lo, .int .i64 (hullG y0 x0).hi, .int .i64 (hullG y1 x1).lo, .int .i64 (hullG y1 x1).hi, .int .i64 (hullG y2 x2).lo, .int .i64 (hullG y2 x2).hi, .int .i64 (hullG y3 x3).lo, .int .i64 (hullG y3 x3).hi] 78 (0, 0)) := hp_row_same HP2.out _
          have HOF := Lib.hid (show Off g w (wa.setRow P #[.int .i64 (hullG y0 x0).lo, .int .i64 (hullG y0 x0).hi, .int .i64 (hullG y1 x1).lo, .int .i64 (hullG y1 x1).hi, .int .i64 (hullG y2 x2).lo, .int .i64 (hullG y2 x2).hi, .int .i64 (hullG y3 x3).lo, .int .i64 (hullG y3 x3).hi]) from Off.low (below_setRow (HBW.out.drew.trans (HA.out.mono HBW.out.size)) HPW.out _))
          refine hK.out _ _ hHG3 (fun hHeld => ?_)
          clear hK K
          try simp only [Act.put, List.getElem_toArray, List.getElem_cons_succ, List.getElem_cons_zero, List.setIfInBounds_toArray, List.set_cons_zero, List.set_cons_succ]
          refine wpAnyH_done (by kernel_rfl) ?_ _
          clear hHeld
          have HG3 := Lib.hid hHG3
          have HP3 := Lib.hid hHP3
          go_wp2_with (first | (refine wpList_load_row rfl 78 (.tmp 3) rfl P rfl 78 _ (0, 0) _ HP3.out Try.underlying78 rfl info_box ?_) | (refine wpList_store_mid rfl 115 (.tmp 19) (.tmp 18) rfl g o _ rfl rfl (there_of HG3.out HSZ.out) info_lb (one9 _ _ _ _ _ _ _ _ _) ?_))
          refine bodyPost_end (results_none rfl _ _ _) rfl ?_
          refine ⟨rfl, ?_, ?_⟩
          · rw [← HSP.out (some [hullG y0 x0, hullG y1 x1, hullG y2 x2, hullG y3 x3]) (fun b hb => by injection hb with e; subst e; rfl)]; exact hp_puts _ _ HG3.out
          · exact (HOF.out.trans (Off.setCells _ _ _ _))

end Go.Proofs.Ytmpghapfldjfeaa
