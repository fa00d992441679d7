/- Several texts in one. -/
import Derived.Test.YtmpgaccpdglhkaaSpC
import Derived.Test.YtmpgaccpdglhkaaOff
import Derived.Test.YtmpgaccpdglhkaaSpF
/- The boxes of all lines in memory; receive: contract. -/
set_option linter.unusedVariables false
set_option linter.unusedSimpArgs false
namespace Go.Proofs.Ytmpgaccpdglhkaa
open Go.RowKit Tinker

/-- Cells that are written one after another. -/
def puts (cs : Array Value) (o : Nat) : List Value → Array Value
  | [] => cs
  | v :: r => puts (cs.setIfInBounds o v) (o + 1) r
theorem hp_puts {g : Nat} {t : TypeId} : ∀ (vs : List Value) (o : Nat) {w : World} {cs : Array Value}, w.heap[g]? = some (.cells cs t (0, 0)) → (w.setCells g o vs).heap[g]? = some (.cells (puts cs o vs) t (0, 0))
  | [], o, w, cs, h => h
  | v :: r, o, w, cs, h => hp_puts r (o + 1) (hp_put h o v)
theorem puts_mid : ∀ (vs A B C : List Value), vs.length = B.length → puts (A ++ B ++ C).toArray A.length vs = (A ++ vs ++ C).toArray
  | [], A, B, C, h => by
    have : B = [] := List.eq_nil_of_length_eq_zero (by simpa using h.symm)
    subst this; rfl
  | v :: r, A, B, C, h => by
    match B, h with
    | b :: B', h =>
      have ih := puts_mid r (A ++ [v]) B' C (by simpa using h)
      unfold puts
      rw [show (A ++ b :: B' ++ C).toArray.setIfInBounds A.length v = (A ++ [v] ++ B' ++ C).toArray by simp]
      rw [show A.length + 1 = (A ++ [v]).length by simp, ih]
      simp
/-- The cells of what is known of one line. -/
def lbc (x : Option (List Rg)) : List Value := match x with
  | none => .bool false :: List.replicate 8 (.int .i64 0)
  | some b => .bool true :: gc b
def sc (st : List (Option (List Rg))) : List Value := st.flatMap lbc
/-- All boxes have four ranges. -/
def L4 (st : List (Option (List Rg))) : Prop := ∀ k b, st.getD k none = some b → b.length = 4
theorem lbc_len {x : Option (List Rg)} (h : ∀ b, x = some b → b.length = 4) : (lbc x).length = 9 := by
  cases x with
  | none => rfl
  | some b => unfold lbc; rw [List.length_cons, gc_length, h b rfl]
theorem sc_split : ∀ {st : List (Option (List Rg))} {j : Nat}, L4 st → j < st.length → ∃ A C, sc st = A ++ lbc (st.getD j none) ++ C ∧ A.length = j * 9 ∧ ∀ y, sc (st.set j y) = A ++ lbc y ++ C
  | [], j, h, hj => by simp at hj
  | x :: q, 0, h, hj => ⟨[], sc q, by simp [sc], rfl, fun y => by simp [sc]⟩
  | x :: q, j + 1, h, hj => by
    obtain ⟨A, C, h1, h2, h3⟩ := sc_split (st := q) (j := j) (fun k b hk => h (k + 1) b (by simpa using hk)) (by simpa using hj)
    have h9 := lbc_len (x := x) (fun b hb => h 0 b (by simpa using hb))
    refine ⟨lbc x ++ A, C, ?_, by rw [List.length_append, h9, h2]; omega, fun y => ?_⟩
    · show lbc x ++ sc q = _
      rw [h1]; simp
    · show lbc x ++ sc (q.set j y) = _
      rw [h3 y]; simp
theorem sc_length : ∀ {st : List (Option (List Rg))}, L4 st → (sc st).length = st.length * 9
  | [], h => rfl
  | x :: q, h => by
    have h9 := lbc_len (x := x) (fun b hb => h 0 b (by simpa using hb))
    show (lbc x ++ sc q).length = _
    rw [List.length_append, h9, sc_length (st := q) (fun k b hk => h (k + 1) b (by simpa using hk)), List.length_cons]; omega
theorem sc_get {st : List (Option (List Rg))} {j : Nat} (h : L4 st) (hj : j < st.length) {i : Nat} {v : Value} (hv : (lbc (st.getD j none))[i]? = some v) : (sc st).toArray[j * 9 + i]? = some v := by
  obtain ⟨A, C, h1, h2, _⟩ := sc_split h hj
  rw [h1]
  have hi := (List.getElem?_eq_some_iff.1 hv).1
  simp only [List.getElem?_toArray]
  rw [List.append_assoc, List.getElem?_append_right (by omega), List.getElem?_append_left (by omega), h2]
  rw [show j * 9 + i - j * 9 = i by omega]; exact hv
theorem sc_puts {st : List (Option (List Rg))} {j : Nat} (h : L4 st) (hj : j < st.length) {y : Option (List Rg)} (hy : ∀ b, y = some b → b.length = 4) : puts (sc st).toArray (j * 9) (lbc y) = (sc (st.set j y)).toArray := by
  obtain ⟨A, C, h1, h2, h3⟩ := sc_split h hj
  rw [h1, h3 y, ← h2]
  exact puts_mid _ _ _ _ (by rw [lbc_len hy, lbc_len (fun b hb => h j b hb)])

theorem info_lb : (Try.prog.info? 78).map (·.size) = some 9 := by kernel_rfl
theorem one9 (x : Bool) (a b c d e f g h : Int) : (#[.bool x, .int .i64 a, .int .i64 b, .int .i64 c, .int .i64 d, .int .i64 e, .int .i64 f, .int .i64 g, .int .i64 h] : Array Value).all (·.oneCell') = true := by simp [Value.oneCell']

set_option maxRecDepth 100000 in
set_option maxHeartbeats 4000000 in
theorem receive_any (g j : Nat) (st : List (Option (List Rg))) (b : List Rg) (w : World) (hg : w.heap[g]? = some (.cells (sc st).toArray 78 (0, 0))) (h4 : L4 st) (hj : j < st.length) (hb : b.length = 4) :
    Calls Try.prog 86 #[.pointer (some ⟨g, j * 9, none⟩), bx b] w fun e w' => e = .returned (.tuple #[]) ∧ w'.heap[g]? = some (.cells (sc (recv st j b)).toArray 78 (0, 0)) ∧ Off g w w' := by
  have HG := Lib.hid hg
  have HJ := Lib.hid (fun a ha => joinHull_any a b · ha hb)
  have HSP := Lib.hid (fun y hy => sc_puts h4 hj (y := y) hy)
  have HGE := Lib.hid (fun i v hv => sc_get h4 hj (i := i) (v := v) hv)
  have hlg := hp_lt hg
  have hgne : g ≠ w.heap.size := by omega
  have HSZ := Lib.hid (show j * 9 + 9 ≤ (sc st).toArray.size by rw [List.size_toArray, sc_length h4]; omega)
  have HRV : Hid (recv st j b = st.set j (some (match st.getD j none with | none => b | some y => hullB y b))) := Lib.hid rfl
  have H4 := Lib.hid (fun y => h4 j y)
  rw [HRV.out]
  obtain ⟨o, ho⟩ : ∃ o, o = j * 9 := ⟨_, rfl⟩
  rw [← ho] at HSP HGE HSZ ⊢
  cases hq : st.getD j none with
  | none =>
    rw [hq] at HGE
    obtain ⟨x0, x1, x2, x3, rfl⟩ := rg_list4 hb
    rw [bx_4]
    have c0 : w.cell? ⟨g, o, none⟩ = some (.bool false) := hp_cell hg (HGE.out 0 _ rfl)
    clear hg h4 hj hb hq HJ HGE ho HRV H4
    go_enter Try.func86, Try.ntmps86
    go_wp2_with (first | (refine wpList_store_mid rfl 78 (.tmp 19) (.tmp 18) rfl g o _ rfl rfl (there_of (hp_alloc HG.out) HSZ.out) info_lb (one9 _ _ _ _ _ _ _ _ _) ?_))
    refine bodyPost_end (results_none rfl _ _ _) rfl ?_
    refine ⟨rfl, ?_, ?_⟩
    · rw [← HSP.out (some [x0, x1, x2, x3]) (fun b hb => by injection hb with e; subst e; rfl)]; exact hp_puts _ _ (hp_alloc HG.out)
    · exact (Off.low ((Below.refl _ _).alloc (Nat.le_refl _) _)).trans (Off.setCells _ _ _ _)
  | some y =>
    have hy := H4.out y hq
    rw [hq] at HGE
    replace HJ := Lib.hid (fun w => HJ.out w y hy) 
    obtain ⟨x0, x1, x2, x3, rfl⟩ := rg_list4 hb
    obtain ⟨y0, y1, y2, y3, rfl⟩ := rg_list4 hy
    rw [show hullB [y0, y1, y2, y3] [x0, x1, x2, x3] = [hullG y0 x0, hullG y1 x1, hullG y2 x2, hullG y3 x3] from rfl, bx_4, bx_4, bx_4] at HJ
    show Calls _ _ _ _ fun e w' => e = .returned (.tuple #[]) ∧ w'.heap[g]? = some (.cells (sc (st.set j (some [hullG y0 x0, hullG y1 x1, hullG y2 x2, hullG y3 x3]))).toArray 78 (0, 0)) ∧ Off g w w'
    rw [bx_4]
    have c0 : w.cell? ⟨g, o, none⟩ = some (.bool true) := hp_cell hg (HGE.out 0 _ rfl)
    have HNE := Lib.hid hgne
    clear hg h4 hj hb hq ho HRV H4 hy
    go_enter Try.func86, Try.ntmps86
    go_upto_region 2 with fail
    have HG1 := Lib.hid (hp_alloc (o' := .cells #[.int .i64 x0.lo, .int .i64 x0.hi, .int .i64 x1.lo, .int .i64 x1.hi, .int .i64 x2.lo, .int .i64 x2.hi, .int .i64 x3.lo, .int .i64 x3.hi] 69 (0, 0)) HG.out)
    have HP1 := Lib.hid (hp_new (w := w) (o := .cells #[.int .i64 x0.lo, .int .i64 x0.hi, .int .i64 x1.lo, .int .i64 x1.hi, .int .i64 x2.lo, .int .i64 x2.hi, .int .i64 x3.lo, .int .i64 x3.hi] 69 (0, 0)) rfl)
    have HBW := Lib.hid ((Below.refl w.heap.size w).alloc (Nat.le_refl _) (.cells #[.int .i64 x0.lo, .int .i64 x0.hi, .int .i64 x1.lo, .int .i64 x1.hi, .int .i64 x2.lo, .int .i64 x2.hi, .int .i64 x3.lo, .int .i64 x3.hi] 69 (0, 0)))
    have HPW := Lib.hid (Nat.le_refl w.heap.size)
    generalize hW1 : (w.alloc (.cells #[.int .i64 x0.lo, .int .i64 x0.hi, .int .i64 x1.lo, .int .i64 x1.hi, .int .i64 x2.lo, .int .i64 x2.hi, .int .i64 x3.lo, .int .i64 x3.hi] 69 (0, 0))) = W1 at HG1 HP1 HBW ⊢
    clear hW1
    obtain ⟨P, hP⟩ : ∃ P, P = w.heap.size := ⟨_, rfl⟩
    rw [← hP] at HP1 HNE ⊢
    replace HPW := Lib.hid (show w.heap.size ≤ P by rw [hP]; exact Nat.le_refl _)
    clear hP c0
    refine wp_region_held_drew (S := (fun W => W.heap[g]? = some (.cells (sc st).toArray 78 (0, 0)))) (by kernel_rfl) ?_ (fun hHeld => ?_)
    · exact hp_drew HG1.out
    refine wpAnyH_take (i := 0) (oi := ?oiq1) (v := ?vq1) ?hiq1 (by kernel_rfl) (by kernel_rfl) (by kernel_rfl) ?hqq1 ?hyq1 hHeld ?restq1
    case hiq1 => exact rfl
    case hqq1 => exact fun _ _ _ h => h
    case hyq1 =>
      refine Or.inl ⟨by rfl, ?_⟩
      intro w hSw
      go_simp
      (try with_reducible rfl)
    try simp only [Act.put, List.getElem_toArray, List.getElem_cons_succ, List.getElem_cons_zero, List.setIfInBounds_toArray, List.set_cons_zero, List.set_cons_succ]
    refine wpAnyH_take (i := 1) (oi := ?oiq2) (v := ?vq2) ?hiq2 (by kernel_rfl) (by kernel_rfl) (by kernel_rfl) ?hqq2 ?hyq2 hHeld ?restq2
    case hiq2 => exact rfl
    case hqq2 => exact fun _ _ _ h => h
    case hyq2 =>
      refine Or.inl ⟨by rfl, ?_⟩
      intro w hSw
      go_simp
      (try with_reducible rfl)
    try simp only [Act.put, List.getElem_toArray, List.getElem_cons_succ, List.getElem_cons_zero, List.setIfInBounds_toArray, List.set_cons_zero, List.set_cons_succ]
    refine wpAnyH_take (i := 2) (oi := ?oiq3) (v := ?vq3) ?hiq3 (by kernel_rfl) (by kernel_rfl) (by kernel_rfl) ?hqq3 ?hyq3 hHeld ?restq3
    case hiq3 => exact rfl
    case hqq3 => exact fun _ _ _ h => h
    case hyq3 =>
      refine Or.inl ⟨by rfl, ?_⟩
      intro w hSw
      go_simp
      (try with_reducible rfl)
    try simp only [Act.put, List.getElem_toArray, List.getElem_cons_succ, List.getElem_cons_zero, List.setIfInBounds_toArray, List.set_cons_zero, List.set_cons_succ]
    refine wpAnyH_take (i := 3) (oi := ?oiq4) (v := (.agg #[.int .i64 y0.lo, .int .i64 y0.hi, .int .i64 y1.lo, .int .i64 y1.hi, .int .i64 y2.lo, .int .i64 y2.hi, .int .i64 y3.lo, .int .i64 y3.hi])) ?hiq4 (by kernel_rfl) (by kernel_rfl) (by kernel_rfl) ?hqq4 ?hyq4 hHeld ?restq4
    case hiq4 => exact rfl
    case hqq4 => exact fun _ _ _ h => h
    case hyq4 =>
      refine Or.inl ⟨by rfl, ?_⟩
      intro w hSw
      have z0 : w.cell? ⟨g, o + 1, none⟩ = some (.int .i64 y0.lo) := hp_cell hSw (HGE.out 1 _ rfl)
      have z1 : w.cell? ⟨g, o + 1 + 1, none⟩ = some (.int .i64 y0.hi) := hp_cell hSw (HGE.out 2 _ rfl)
      have z2 : w.cell? ⟨g, o + 1 + 2, none⟩ = some (.int .i64 y1.lo) := hp_cell hSw (HGE.out 3 _ rfl)
      have z3 : w.cell? ⟨g, o + 1 + 3, none⟩ = some (.int .i64 y1.hi) := hp_cell hSw (HGE.out 4 _ rfl)
      have z4 : w.cell? ⟨g, o + 1 + 4, none⟩ = some (.int .i64 y2.lo) := hp_cell hSw (HGE.out 5 _ rfl)
      have z5 : w.cell? ⟨g, o + 1 + 5, none⟩ = some (.int .i64 y2.hi) := hp_cell hSw (HGE.out 6 _ rfl)
      have z6 : w.cell? ⟨g, o + 1 + 6, none⟩ = some (.int .i64 y3.lo) := hp_cell hSw (HGE.out 7 _ rfl)
      have z7 : w.cell? ⟨g, o + 1 + 7, none⟩ = some (.int .i64 y3.hi) := hp_cell hSw (HGE.out 8 _ rfl)
      go_simp
      (try with_reducible rfl)
    try simp only [Act.put, List.getElem_toArray, List.getElem_cons_succ, List.getElem_cons_zero, List.setIfInBounds_toArray, List.set_cons_zero, List.set_cons_succ]
    refine wpAnyH_ready (rs := [4]) (by kernel_rfl) (by simp) ?_
    refine AllReadyH.cons (o := ?or7_4) ?hr7_4 ?kr7_4 AllReadyH.nil
    case hr7_4 => exact rfl
    case kr7_4 =>
      intro K hK
      have u0 : W1.cell? ⟨P, 0, none⟩ = some (.int .i64 x0.lo) := hp_cell HP1.out (by rfl)
      have u1 : W1.cell? ⟨P, 1, none⟩ = some (.int .i64 x0.hi) := hp_cell HP1.out (by rfl)
      have u2 : W1.cell? ⟨P, 2, none⟩ = some (.int .i64 x1.lo) := hp_cell HP1.out (by rfl)
      have u3 : W1.cell? ⟨P, 3, none⟩ = some (.int .i64 x1.hi) := hp_cell HP1.out (by rfl)
      have u4 : W1.cell? ⟨P, 4, none⟩ = some (.int .i64 x2.lo) := hp_cell HP1.out (by rfl)
      have u5 : W1.cell? ⟨P, 5, none⟩ = some (.int .i64 x2.hi) := hp_cell HP1.out (by rfl)
      have u6 : W1.cell? ⟨P, 6, none⟩ = some (.int .i64 x3.lo) := hp_cell HP1.out (by rfl)
      have u7 : W1.cell? ⟨P, 7, none⟩ = some (.int .i64 x3.hi) := hp_cell HP1.out (by rfl)
      go_simp
      refine hK.out _ _ (hp_drew HG1.out) (fun hHeld => ?_)
      clear hK K
      try simp only [Act.put, List.getElem_toArray, List.getElem_cons_succ, List.getElem_cons_zero, List.setIfInBounds_toArray, List.set_cons_zero, List.set_cons_succ]
      refine wpAnyH_ready (rs := [5]) (by kernel_rfl) (by simp) ?_
      refine AllReadyH.cons (o := ?or6_5) ?hr6_5 ?kr6_5 AllReadyH.nil
      case hr6_5 => exact rfl
      case kr6_5 =>
        intro K hK
        go_simp
        refine (HJ.out _).mono ?_
        rintro e wa ⟨rfl, hBa⟩
        have HA := Lib.hid hBa
        clear hBa
        refine hK.out _ _ (hp_below (hp_drew HG1.out) HA.out (hp_lt HG1.out)) (fun hHeld => ?_)
        clear hK K
        try simp only [Act.put, List.getElem_toArray, List.getElem_cons_succ, List.getElem_cons_zero, List.setIfInBounds_toArray, List.set_cons_zero, List.set_cons_succ]
        refine wpAnyH_ready (rs := [6]) (by kernel_rfl) (by simp) ?_
        refine AllReadyH.cons (o := ?or5_6) ?hr5_6 ?kr5_6 AllReadyH.nil
        case hr5_6 => exact rfl
        case kr5_6 =>
          intro K hK
          have HP2 := Lib.hid (hp_below (hp_drew HP1.out) HA.out (hp_lt HP1.out))
          have HG2 := Lib.hid (hp_below (hp_drew HG1.out) HA.out (hp_lt HG1.out))
          refine wp_store_row 69 (.tmp 3) (.tmp 14) rfl P _ rfl rfl 69 _ HP2.out info_box rfl (one8 _ _ _ _ _ _ _ _) ?_
          have hHG3 : (wa.setRow P #[.int .i64 (hullG y0 x0).lo, .int .i64 (hullG y0 x0).hi, .int .i64 (hullG y1 x1).lo, .int .i64 (hullG y1 x1).hi, .int .i64 (hullG y2 x2).lo, .int .i64 (hullG y2 x2).hi, .int .i64 (hullG y3 x3).lo, .int .i64 (hullG y3 x3).hi]).heap[g]? = some (.cells (sc st).toArray 78 (0, 0)) := hp_row HG2.out HNE.out _
          have hHP3 : (wa.setRow P #[.int .i64 (hullG y0 x0).lo, .int .i64 (hullG y0 x0).hi, .int .i64 (hullG y1 x1).lo, .int .i64 (hullG y1 x1).hi, .int .i64 (hullG y2 x2).lo, .int .i64 (hullG y2 x2).hi, .int .i64 (hullG y3 x3).lo, .int .i64 (hullG y3 x3).hi]).heap[P]? = some (.cells #[.int .i64 (hullG y0 x0).lo, .int .i64 (hullG y0 x0).hi, .int .i64 (hullG y1 x1).lo, .int .i64 (hullG y1 x1).hi, .int .i64 (hullG y2 x2).lo, .int .i64 (hullG y2 x2).hi, .int .i64 (hullG y3 x3).lo, .int .i64 (hullG y3 x3).hi] 69 (0, 0)) := hp_row_same HP2.out _
          have HOF := Lib.hid (show Off g w (wa.setRow P #[.int .i64 (hullG y0 x0).lo, .int .i64 (hullG y0 x0).hi, .int .i64 (hullG y1 x1).lo, .int .i64 (hullG y1 x1).hi, .int .i64 (hullG y2 x2).lo, .int .i64 (hullG y2 x2).hi, .int .i64 (hullG y3 x3).lo, .int .i64 (hullG y3 x3).hi]) from Off.low (below_setRow (HBW.out.drew.trans (HA.out.mono HBW.out.size)) HPW.out _))
          refine hK.out _ _ hHG3 (fun hHeld => ?_)
          clear hK K
          try simp only [Act.put, List.getElem_toArray, List.getElem_cons_succ, List.getElem_cons_zero, List.setIfInBounds_toArray, List.set_cons_zero, List.set_cons_succ]
          refine wpAnyH_done (by kernel_rfl) ?_ _
          clear hHeld
          have HG3 := Lib.hid hHG3
          have HP3 := Lib.hid hHP3
          go_wp2_with (first | (refine wpList_load_row rfl 69 (.tmp 3) rfl P rfl 69 _ (0, 0) _ HP3.out Try.underlying69 rfl info_box ?_) | (refine wpList_store_mid rfl 78 (.tmp 19) (.tmp 18) rfl g o _ rfl rfl (there_of HG3.out HSZ.out) info_lb (one9 _ _ _ _ _ _ _ _ _) ?_))
          refine bodyPost_end (results_none rfl _ _ _) rfl ?_
          refine ⟨rfl, ?_, ?_⟩
          · rw [← HSP.out (some [hullG y0 x0, hullG y1 x1, hullG y2 x2, hullG y3 x3]) (fun b hb => by injection hb with e; subst e; rfl)]; exact hp_puts _ _ HG3.out
          · exact (HOF.out.trans (Off.setCells _ _ _ _))

end Go.Proofs.Ytmpgaccpdglhkaa

/- follow of package span: contract. -/
set_option linter.unusedVariables false
set_option linter.unusedSimpArgs false
namespace Go.Proofs.Ytmpgaccpdglhkaa
open Go.RowKit Tinker

theorem mkLB0 (w : World) : (Instr.makeSlice 79 (.int .i64 (((0 : Nat) : Int) + 1)) (.int .i64 (((0 : Nat) : Int) + 1))).run Try.prog w = .ok (.slice (some ⟨w.heap.size, 0, none⟩) (0 + 1) (0 + 1)) (w.alloc (.cells (sc (List.replicate (0 + 1) none)).toArray 78)) := by kernel_rfl
theorem mkLB1 (w : World) : (Instr.makeSlice 79 (.int .i64 (((1 : Nat) : Int) + 1)) (.int .i64 (((1 : Nat) : Int) + 1))).run Try.prog w = .ok (.slice (some ⟨w.heap.size, 0, none⟩) (1 + 1) (1 + 1)) (w.alloc (.cells (sc (List.replicate (1 + 1) none)).toArray 78)) := by kernel_rfl
theorem mkLB2 (w : World) : (Instr.makeSlice 79 (.int .i64 (((2 : Nat) : Int) + 1)) (.int .i64 (((2 : Nat) : Int) + 1))).run Try.prog w = .ok (.slice (some ⟨w.heap.size, 0, none⟩) (2 + 1) (2 + 1)) (w.alloc (.cells (sc (List.replicate (2 + 1) none)).toArray 78)) := by kernel_rfl
theorem mkLB3 (w : World) : (Instr.makeSlice 79 (.int .i64 (((3 : Nat) : Int) + 1)) (.int .i64 (((3 : Nat) : Int) + 1))).run Try.prog w = .ok (.slice (some ⟨w.heap.size, 0, none⟩) (3 + 1) (3 + 1)) (w.alloc (.cells (sc (List.replicate (3 + 1) none)).toArray 78)) := by kernel_rfl
theorem mkLB4 (w : World) : (Instr.makeSlice 79 (.int .i64 (((4 : Nat) : Int) + 1)) (.int .i64 (((4 : Nat) : Int) + 1))).run Try.prog w = .ok (.slice (some ⟨w.heap.size, 0, none⟩) (4 + 1) (4 + 1)) (w.alloc (.cells (sc (List.replicate (4 + 1) none)).toArray 78)) := by kernel_rfl
theorem mkLB5 (w : World) : (Instr.makeSlice 79 (.int .i64 (((5 : Nat) : Int) + 1)) (.int .i64 (((5 : Nat) : Int) + 1))).run Try.prog w = .ok (.slice (some ⟨w.heap.size, 0, none⟩) (5 + 1) (5 + 1)) (w.alloc (.cells (sc (List.replicate (5 + 1) none)).toArray 78)) := by kernel_rfl
theorem mkLB6 (w : World) : (Instr.makeSlice 79 (.int .i64 (((6 : Nat) : Int) + 1)) (.int .i64 (((6 : Nat) : Int) + 1))).run Try.prog w = .ok (.slice (some ⟨w.heap.size, 0, none⟩) (6 + 1) (6 + 1)) (w.alloc (.cells (sc (List.replicate (6 + 1) none)).toArray 78)) := by kernel_rfl
theorem mkLB7 (w : World) : (Instr.makeSlice 79 (.int .i64 (((7 : Nat) : Int) + 1)) (.int .i64 (((7 : Nat) : Int) + 1))).run Try.prog w = .ok (.slice (some ⟨w.heap.size, 0, none⟩) (7 + 1) (7 + 1)) (w.alloc (.cells (sc (List.replicate (7 + 1) none)).toArray 78)) := by kernel_rfl
theorem mkLB8 (w : World) : (Instr.makeSlice 79 (.int .i64 (((8 : Nat) : Int) + 1)) (.int .i64 (((8 : Nat) : Int) + 1))).run Try.prog w = .ok (.slice (some ⟨w.heap.size, 0, none⟩) (8 + 1) (8 + 1)) (w.alloc (.cells (sc (List.replicate (8 + 1) none)).toArray 78)) := by kernel_rfl
theorem mkLBs (n : Nat) (hn : n ≤ 8) (w : World) : (Instr.makeSlice 79 (.int .i64 ((n : Int) + 1)) (.int .i64 ((n : Int) + 1))).run Try.prog w = .ok (.slice (some ⟨w.heap.size, 0, none⟩) (n + 1) (n + 1)) (w.alloc (.cells (sc (List.replicate (n + 1) none)).toArray 78)) := by
  match n, hn with
  | 0, _ => exact mkLB0 w
  | 1, _ => exact mkLB1 w
  | 2, _ => exact mkLB2 w
  | 3, _ => exact mkLB3 w
  | 4, _ => exact mkLB4 w
  | 5, _ => exact mkLB5 w
  | 6, _ => exact mkLB6 w
  | 7, _ => exact mkLB7 w
  | 8, _ => exact mkLB8 w
theorem L4_of {st : List (Option (List Rg))} (h : OkSt st) : L4 st := fun k b hk => (h k b hk).l4
theorem L4_rep (n : Nat) : L4 (List.replicate n none) := fun k b hk => by
  rw [List.getD_eq_getElem?_getD, List.getElem?_replicate] at hk
  split at hk <;> simp at hk
theorem recv_none {n : Nat} (b : List Rg) : recv (List.replicate (n + 1) none) 0 b = (List.replicate (n + 1) none).set 0 (some b) := by
  unfold recv
  rw [List.getD_eq_getElem?_getD, List.getElem?_replicate, if_pos (by omega)]; rfl
/-- What a world keeps of two blocks. -/
theorem Off.blk {g i : Nat} {w w' : World} {o : Obj} (h : Off g w w') (hi : w.heap[i]? = some o) (hne : i ≠ g) : w'.heap[i]? = some o := (h.block i (hp_lt hi) hne).trans hi

set_option maxRecDepth 100000 in
set_option maxHeartbeats 8000000 in
theorem sfollow_any (a : Option Addr) (ca : Nat) (ps : List L) (b : List Rg) (w : World) (hp : LinesAt w a ps) (hv : vp ps = 0) (hb : OkB b) :
    Calls Try.prog 47 #[.slice a ps.length ca, bx b] w fun e w' => ∃ g, e = .returned (.slice (some ⟨g, 0, none⟩) (ps.length + 1) (ps.length + 1)) ∧ w'.heap[g]? = some (.cells (sc (spL ps b)).toArray 78 (0, 0)) ∧ w.heap.size ≤ g ∧ Below w.heap.size w w' := by
  obtain ⟨h8, hvl⟩ := vp_ok hv
  have h4 := hb.l4
  have mk := fun w => mkLBs ps.length h8 w
  have HOK := Lib.hid (fun k => okSt_at hvl hb k)
  have HLN := Lib.hid (fun k => spAt_len ps b k)
  have HS0 := Lib.hid (show spAt ps b 0 = recv (List.replicate (ps.length + 1) none) 0 b by rw [recv_none]; rfl)
  have HV := Lib.hid hvl
  have HP := Lib.hid hp
  have HR0 := Lib.hid (fun g w hg => receive_any g 0 (List.replicate (ps.length + 1) none) b w hg (L4_rep _) (by simp) h4)
  simp only [Nat.zero_mul] at HR0
  have HRCV := Lib.hid (fun g j st c w hg h5 hj hc => receive_any g j st c w hg h5 hj hc)
  have HSL := Lib.hid (show spL ps b = spAt ps b ps.length from rfl)
  have HSTP := Lib.hid (show ∀ k, spAt ps b (k + 1) = spStep ps (spAt ps b k) k from fun k => rfl)
  rw [HSL.out]
  generalize hSA : spAt ps b = SA at *
  clear hSA hv hvl hp hb HSL
  obtain ⟨x0, x1, x2, x3, rfl⟩ := rg_list4 h4
  rw [bx_4] at HR0 ⊢
  clear h4
  go_enter Try.func47, Try.ntmps47
  go_wp2_with fail
  clear mk
  have HGN := Lib.hid (hp_new (w := w.alloc (.cells #[.int .i64 x0.lo, .int .i64 x0.hi, .int .i64 x1.lo, .int .i64 x1.hi, .int .i64 x2.lo, .int .i64 x2.hi, .int .i64 x3.lo, .int .i64 x3.hi] 69 (0, 0))) (o := .cells (sc (List.replicate (ps.length + 1) none)).toArray 78 (0, 0)) (i := w.heap.size + 1) (by simp))
  have HBN := Lib.hid (((Below.refl w.heap.size w).alloc (Nat.le_refl _) (.cells #[.int .i64 x0.lo, .int .i64 x0.hi, .int .i64 x1.lo, .int .i64 x1.hi, .int .i64 x2.lo, .int .i64 x2.hi, .int .i64 x3.lo, .int .i64 x3.hi] 69 (0, 0))).alloc (by simp) (.cells (sc (List.replicate (ps.length + 1) none)).toArray 78 (0, 0)))
  have hn1 : (0 : Int) < (ps.length : Int) + 1 := by omega
  go_region_with (go_at_call 86; refine (HR0.out (w.heap.size + 1) _ (hp_drew HGN.out)).mono ?_; rintro e wa ⟨rfl, hgb, hob⟩; have HG0 := Lib.hid hgb; have HB0 := Lib.hid (HBN.out.drew.trans (hob.below (by omega) (by simp; omega))); clear hgb hob)
  clear HR0 HGN HBN hn1
  have HGW := Lib.hid (show w.heap.size ≤ w.heap.size + 1 by omega)
  generalize w.heap.size + 1 = G at *
  go_wp2_with fail
  go_loopw [19] (fun s19 wr => ∃ k : Nat, k ≤ ps.length ∧ s19 = .int .i64 k ∧ wr.heap[G]? = some (.cells (sc (SA k)).toArray 78 (0, 0)) ∧ Below w.heap.size w wr) (fun s19 _ => ps.length - (intOf s19).toNat)
  case atStart => exact ⟨0, Nat.zero_le _, rfl, by rw [HS0.out]; exact HG0.out, HB0.out⟩
  case round =>
    clear HG0 HB0
    obtain ⟨k, hk, rfl, hgx, hB⟩ := hrel
    by_cases hlt : k < ps.length
    · obtain ⟨pb, off, l, rfl, hlb, hl, c0, c1, c2, c3⟩ := (HP.out.below hB (Nat.le_refl _)).at_ hlt
      have hln := HV.out l (mem_of_get hl)
      cases hx : (SA k).getD k none with
      | none =>
        have HST := Lib.hid (show SA (k + 1) = SA k by rw [HSTP.out, spStep_none hx])
        have z0 : ∀ o', (wr.alloc o').cell? ⟨G, k * 9, none⟩ = some (.bool false) := fun o' => hp_cell (hp_alloc hgx) (sc_get (j := k) (i := 0) (v := .bool false) (L4_of (HOK.out k)) (by rw [HLN.out]; omega) (by rw [hx]; rfl))
        have z1 : ∀ o', (wr.alloc o').cell? ⟨G, k * 9 + 1, none⟩ = some (.int .i64 0) := fun o' => hp_cell (hp_alloc hgx) (sc_get (j := k) (i := 1) (v := .int .i64 0) (L4_of (HOK.out k)) (by rw [HLN.out]; omega) (by rw [hx]; rfl))
        have z2 : ∀ o', (wr.alloc o').cell? ⟨G, k * 9 + 2, none⟩ = some (.int .i64 0) := fun o' => hp_cell (hp_alloc hgx) (sc_get (j := k) (i := 2) (v := .int .i64 0) (L4_of (HOK.out k)) (by rw [HLN.out]; omega) (by rw [hx]; rfl))
        have z3 : ∀ o', (wr.alloc o').cell? ⟨G, k * 9 + 3, none⟩ = some (.int .i64 0) := fun o' => hp_cell (hp_alloc hgx) (sc_get (j := k) (i := 3) (v := .int .i64 0) (L4_of (HOK.out k)) (by rw [HLN.out]; omega) (by rw [hx]; rfl))
        have z4 : ∀ o', (wr.alloc o').cell? ⟨G, k * 9 + 4, none⟩ = some (.int .i64 0) := fun o' => hp_cell (hp_alloc hgx) (sc_get (j := k) (i := 4) (v := .int .i64 0) (L4_of (HOK.out k)) (by rw [HLN.out]; omega) (by rw [hx]; rfl))
        have z5 : ∀ o', (wr.alloc o').cell? ⟨G, k * 9 + 5, none⟩ = some (.int .i64 0) := fun o' => hp_cell (hp_alloc hgx) (sc_get (j := k) (i := 5) (v := .int .i64 0) (L4_of (HOK.out k)) (by rw [HLN.out]; omega) (by rw [hx]; rfl))
        have z6 : ∀ o', (wr.alloc o').cell? ⟨G, k * 9 + 6, none⟩ = some (.int .i64 0) := fun o' => hp_cell (hp_alloc hgx) (sc_get (j := k) (i := 6) (v := .int .i64 0) (L4_of (HOK.out k)) (by rw [HLN.out]; omega) (by rw [hx]; rfl))
        have z7 : ∀ o', (wr.alloc o').cell? ⟨G, k * 9 + 7, none⟩ = some (.int .i64 0) := fun o' => hp_cell (hp_alloc hgx) (sc_get (j := k) (i := 7) (v := .int .i64 0) (L4_of (HOK.out k)) (by rw [HLN.out]; omega) (by rw [hx]; rfl))
        have z8 : ∀ o', (wr.alloc o').cell? ⟨G, k * 9 + 8, none⟩ = some (.int .i64 0) := fun o' => hp_cell (hp_alloc hgx) (sc_get (j := k) (i := 8) (v := .int .i64 0) (L4_of (HOK.out k)) (by rw [HLN.out]; omega) (by rw [hx]; rfl))
        have HGx := Lib.hid hgx
        have HB := Lib.hid hB
        clear hgx hB hx hl hln
        go_wp2_with fail
        go_roundw
        case rel => exact ⟨k + 1, by omega, by go_num, by rw [HST.out]; exact hp_alloc (hp_alloc HGx.out), (HB.out.alloc HB.out.size _).alloc (by have := HB.out.size; simp; omega) _⟩
        case measure => simp [intOf]; omega
      | some y =>
        have hyo := HOK.out k k y hx
        have hy4 := hyo.l4
        have HST0 := Lib.hid (show SA (k + 1) = _ by rw [HSTP.out, spStep_some hx hl])
        obtain ⟨y0, y1, y2, y3, rfl⟩ := rg_list4 hy4
        have HGOC := Lib.hid (fun w => goesOn_any [y0, y1, y2, y3] l w rfl hln)
        have HSK := Lib.hid (fun w => skips_any [y0, y1, y2, y3] l w rfl hln)
        have HAF := Lib.hid (fun w => after_any [y0, y1, y2, y3] l w hyo hln)
        have HRC := Lib.hid (fun w hg => HRCV.out G (k + 1) (SA k) (afB l [y0, y1, y2, y3]) w hg (L4_of (HOK.out k)) (by rw [HLN.out]; omega) (by rw [afB_len]; rfl))
        rw [bx_4] at HGOC HSK HAF
        unfold lv at HGOC HSK HAF
        have HYO := Lib.hid hyo
        have HLN2 := Lib.hid hln
        have HTO := Lib.hid (fun (h : skpB l [y0, y1, y2, y3] = true) => isLn_skip hln (by unfold skpB at h; simp only [Bool.and_eq_true, beq_iff_eq] at h; exact h.1))
        have HWK := Lib.hid (show IntKind.i64.wrap ((k : Int) + 1) = (k : Int) + 1 from IntWalk.i64_in _ (by omega))
        have z0 : ∀ o', (wr.alloc o').cell? ⟨G, k * 9, none⟩ = some (.bool true) := fun o' => hp_cell (hp_alloc hgx) (sc_get (j := k) (i := 0) (v := .bool true) (L4_of (HOK.out k)) (by rw [HLN.out]; omega) (by rw [hx]; rfl))
        have z1 : ∀ o', (wr.alloc o').cell? ⟨G, k * 9 + 1, none⟩ = some (.int .i64 y0.lo) := fun o' => hp_cell (hp_alloc hgx) (sc_get (j := k) (i := 1) (v := .int .i64 y0.lo) (L4_of (HOK.out k)) (by rw [HLN.out]; omega) (by rw [hx]; rfl))
        have z2 : ∀ o', (wr.alloc o').cell? ⟨G, k * 9 + 2, none⟩ = some (.int .i64 y0.hi) := fun o' => hp_cell (hp_alloc hgx) (sc_get (j := k) (i := 2) (v := .int .i64 y0.hi) (L4_of (HOK.out k)) (by rw [HLN.out]; omega) (by rw [hx]; rfl))
        have z3 : ∀ o', (wr.alloc o').cell? ⟨G, k * 9 + 3, none⟩ = some (.int .i64 y1.lo) := fun o' => hp_cell (hp_alloc hgx) (sc_get (j := k) (i := 3) (v := .int .i64 y1.lo) (L4_of (HOK.out k)) (by rw [HLN.out]; omega) (by rw [hx]; rfl))
        have z4 : ∀ o', (wr.alloc o').cell? ⟨G, k * 9 + 4, none⟩ = some (.int .i64 y1.hi) := fun o' => hp_cell (hp_alloc hgx) (sc_get (j := k) (i := 4) (v := .int .i64 y1.hi) (L4_of (HOK.out k)) (by rw [HLN.out]; omega) (by rw [hx]; rfl))
        have z5 : ∀ o', (wr.alloc o').cell? ⟨G, k * 9 + 5, none⟩ = some (.int .i64 y2.lo) := fun o' => hp_cell (hp_alloc hgx) (sc_get (j := k) (i := 5) (v := .int .i64 y2.lo) (L4_of (HOK.out k)) (by rw [HLN.out]; omega) (by rw [hx]; rfl))
        have z6 : ∀ o', (wr.alloc o').cell? ⟨G, k * 9 + 6, none⟩ = some (.int .i64 y2.hi) := fun o' => hp_cell (hp_alloc hgx) (sc_get (j := k) (i := 6) (v := .int .i64 y2.hi) (L4_of (HOK.out k)) (by rw [HLN.out]; omega) (by rw [hx]; rfl))
        have z7 : ∀ o', (wr.alloc o').cell? ⟨G, k * 9 + 7, none⟩ = some (.int .i64 y3.lo) := fun o' => hp_cell (hp_alloc hgx) (sc_get (j := k) (i := 7) (v := .int .i64 y3.lo) (L4_of (HOK.out k)) (by rw [HLN.out]; omega) (by rw [hx]; rfl))
        have z8 : ∀ o', (wr.alloc o').cell? ⟨G, k * 9 + 8, none⟩ = some (.int .i64 y3.hi) := fun o' => hp_cell (hp_alloc hgx) (sc_get (j := k) (i := 8) (v := .int .i64 y3.hi) (L4_of (HOK.out k)) (by rw [HLN.out]; omega) (by rw [hx]; rfl))
        have HGx := Lib.hid hgx
        have HB := Lib.hid hB
        have hBs := hB.size
        clear hgx hB hx hl hln hyo hy4
        have H7 := Lib.hid (hp_alloc (o' := .cells #[.bool true, .int .i64 y0.lo, .int .i64 y0.hi, .int .i64 y1.lo, .int .i64 y1.hi, .int .i64 y2.lo, .int .i64 y2.hi, .int .i64 y3.lo, .int .i64 y3.hi] 78 (0, 0)) (hp_new (w := wr) (o := .cells #[.int .i64 l.op, .int .i64 l.to, .int .i64 l.a, .int .i64 l.b] 50 (0, 0)) rfl))
        have H8 := Lib.hid (hp_new (w := wr.alloc (.cells #[.int .i64 l.op, .int .i64 l.to, .int .i64 l.a, .int .i64 l.b] 50 (0, 0))) (o := .cells #[.bool true, .int .i64 y0.lo, .int .i64 y0.hi, .int .i64 y1.lo, .int .i64 y1.hi, .int .i64 y2.lo, .int .i64 y2.hi, .int .i64 y3.lo, .int .i64 y3.hi] 78 (0, 0)) (i := wr.heap.size + 1) (by simp))
        have HNE := Lib.hid (show wr.heap.size + 1 ≠ G ∧ wr.heap.size ≠ G by have := hp_lt HGx.out; omega)
        have HBA := Lib.hid ((HB.out.alloc HB.out.size (.cells #[.int .i64 l.op, .int .i64 l.to, .int .i64 l.a, .int .i64 l.b] 50 (0, 0))).alloc (by have := HB.out.size; simp; omega) (.cells #[.bool true, .int .i64 y0.lo, .int .i64 y0.hi, .int .i64 y1.lo, .int .i64 y1.hi, .int .i64 y2.lo, .int .i64 y2.hi, .int .i64 y3.lo, .int .i64 y3.hi] 78 (0, 0)))
        replace HGx := Lib.hid (hp_alloc (o' := .cells #[.bool true, .int .i64 y0.lo, .int .i64 y0.hi, .int .i64 y1.lo, .int .i64 y1.hi, .int .i64 y2.lo, .int .i64 y2.hi, .int .i64 y3.lo, .int .i64 y3.hi] 78 (0, 0)) (hp_alloc (o' := .cells #[.int .i64 l.op, .int .i64 l.to, .int .i64 l.a, .int .i64 l.b] 50 (0, 0)) HGx.out))
        go_wp2_with fail
        refine (HGOC.out _).mono ?_
        rintro e w4 ⟨rfl, hB4⟩
        replace H8 := Lib.hid (hp_below H8.out hB4 (hp_lt H8.out))
        replace H7 := Lib.hid (hp_below H7.out hB4 (hp_lt H7.out))
        replace HGx := Lib.hid (hp_below HGx.out hB4 (hp_lt HGx.out))
        replace HBA := Lib.hid (HBA.out.trans (hB4.mono HBA.out.size))
        clear hB4 HB
        clear c0 c1 c2 c3 z0 z1 z2 z3 z4 z5 z6 z7 z8
        generalize wr.heap.size + 1 = T8 at *
        generalize wr.heap.size = T7 at *
        cases hg : goB l [y0, y1, y2, y3]
        · have HG1 := Lib.hid (show (if goB l [y0, y1, y2, y3] = true then recv (SA k) (k + 1) (afB l [y0, y1, y2, y3]) else SA k) = SA k by rw [hg]; rfl)
          clear hg
          have HOK1 := Lib.hid ((HOK.out k) : OkSt (SA k))
          have HL1 := Lib.hid (show (SA k).length = ps.length + 1 by exact HLN.out k)
          have HRC2 := Lib.hid (fun J (hJ : J ≤ ps.length) w hg => HRCV.out G J (SA k) [y0, y1, y2, y3] w hg (L4_of HOK1.out) (by rw [HL1.out]; omega) rfl)
          rw [bx_4] at HRC2
          have d0 := hp_cell H8.out (j := 0) (by rfl)
          have d1 := hp_cell H8.out (j := 1) (by rfl)
          have d2 := hp_cell H8.out (j := 2) (by rfl)
          have d3 := hp_cell H8.out (j := 3) (by rfl)
          have d4 := hp_cell H8.out (j := 4) (by rfl)
          have d5 := hp_cell H8.out (j := 5) (by rfl)
          have d6 := hp_cell H8.out (j := 6) (by rfl)
          have d7 := hp_cell H8.out (j := 7) (by rfl)
          have d8 := hp_cell H8.out (j := 8) (by rfl)
          have e0 := hp_cell H7.out (j := 0) (by rfl)
          have e1 := hp_cell H7.out (j := 1) (by rfl)
          have e2 := hp_cell H7.out (j := 2) (by rfl)
          have e3 := hp_cell H7.out (j := 3) (by rfl)
          go_wp2_with fail
          clear d0 d1 d2 d3 d4 d5 d6 d7 d8 e0 e1 e2 e3
          refine (HSK.out _).mono ?_
          rintro e w5 ⟨rfl, hB5⟩
          have H8 := Lib.hid (hp_below H8.out hB5 (hp_lt H8.out))
          have H7 := Lib.hid (hp_below H7.out hB5 (hp_lt H7.out))
          have HGx := Lib.hid (hp_below HGx.out hB5 (hp_lt HGx.out))
          have HBA := Lib.hid (HBA.out.trans (hB5.mono HBA.out.size))
          clear hB5
          cases hs : skpB l [y0, y1, y2, y3]
          · have HST := Lib.hid (show SA (k + 1) = SA k by rw [HST0.out, hs, if_neg (by simp), HG1.out]; (try rfl))
            clear hs
            go_wp2_with fail
            go_roundw
            case rel => exact ⟨k + 1, by omega, by go_num, by rw [HST.out]; exact HGx.out, HBA.out⟩
            case measure => simp [intOf]; omega
          · obtain ⟨t, ht⟩ : ∃ t : Nat, l.to = (t : Int) := ⟨l.to.toNat, by have := HTO.out hs; omega⟩
            have htb := HTO.out hs
            have HTT := Lib.hid ht
            have HWT := Lib.hid (show IntKind.i64.wrap ((k : Int) + 1 + l.to) = (k : Int) + 1 + l.to from IntWalk.i64_in _ (by omega))
            by_cases hm : k + 1 + t ≤ ps.length
            · have HJJ := Lib.hid hm
              have hm1 : (k : Int) + 1 + l.to ≤ (ps.length : Int) := by omega
              have hm2 : ¬ (ps.length : Int) < (k : Int) + 1 + l.to := by omega
              have HST := Lib.hid (show SA (k + 1) = recv (SA k) (k + 1 + t) [y0, y1, y2, y3] by rw [HST0.out, hs, if_pos rfl, HG1.out, show min (k + 1 + l.to.toNat) ps.length = k + 1 + t by omega]; (try rfl))
              clear hs ht
              go_upto_region 11 with fail
              refine wp_region_held_drew (S := (fun W => W.heap[T8]? = some (.cells #[.bool true, .int .i64 y0.lo, .int .i64 y0.hi, .int .i64 y1.lo, .int .i64 y1.hi, .int .i64 y2.lo, .int .i64 y2.hi, .int .i64 y3.lo, .int .i64 y3.hi] 78 (0, 0)) ∧ W.heap[T7]? = some (.cells #[.int .i64 l.op, .int .i64 l.to, .int .i64 l.a, .int .i64 l.b] 50 (0, 0)))) (by kernel_rfl) ?_ (fun hHeld => ?_)
              · exact ⟨hp_drew H8.out, hp_drew H7.out⟩
              refine wpAnyH_take (i := 0) (oi := ?oiq1) (v := ?vq1) ?hiq1 (by kernel_rfl) (by kernel_rfl) (by kernel_rfl) ?hqq1 ?hyq1 hHeld ?restq1
              case hiq1 => exact rfl
              case hqq1 => exact fun _ _ _ h => h
              case hyq1 =>
                refine Or.inl ⟨by rfl, ?_⟩
                intro w hSw
                go_simp
                (try with_reducible rfl)
              try simp only [Act.put, List.getElem_toArray, List.getElem_cons_succ, List.getElem_cons_zero, List.setIfInBounds_toArray, List.set_cons_zero, List.set_cons_succ]
              refine wpAnyH_take (i := 1) (oi := ?oiq2) (v := ?vq2) ?hiq2 (by kernel_rfl) (by kernel_rfl) (by kernel_rfl) ?hqq2 ?hyq2 hHeld ?restq2
              case hiq2 => exact rfl
              case hqq2 => exact fun _ _ _ h => h
              case hyq2 =>
                refine Or.inl ⟨by rfl, ?_⟩
                intro w hSw
                go_simp
                (try with_reducible rfl)
              try simp only [Act.put, List.getElem_toArray, List.getElem_cons_succ, List.getElem_cons_zero, List.setIfInBounds_toArray, List.set_cons_zero, List.set_cons_succ]
              refine wpAnyH_take (i := 2) (oi := ?oiq3) (v := (.int .i64 ((k : Int) + 1))) ?hiq3 (by kernel_rfl) (by kernel_rfl) (by kernel_rfl) ?hqq3 ?hyq3 hHeld ?restq3
              case hiq3 => exact rfl
              case hqq3 => exact fun _ _ _ h => h
              case hyq3 =>
                refine Or.inl ⟨by rfl, ?_⟩
                intro w hSw
                go_simp
                (try rw [HWK.out])
                (try rfl)
                (try with_reducible rfl)
              try simp only [Act.put, List.getElem_toArray, List.getElem_cons_succ, List.getElem_cons_zero, List.setIfInBounds_toArray, List.set_cons_zero, List.set_cons_succ]
              refine wpAnyH_take (i := 3) (oi := ?oiq4) (v := ?vq4) ?hiq4 (by kernel_rfl) (by kernel_rfl) (by kernel_rfl) ?hqq4 ?hyq4 hHeld ?restq4
              case hiq4 => exact rfl
              case hqq4 => exact fun _ _ _ h => h
              case hyq4 =>
                refine Or.inl ⟨by rfl, ?_⟩
                intro w hSw
                go_simp
                (try with_reducible rfl)
              try simp only [Act.put, List.getElem_toArray, List.getElem_cons_succ, List.getElem_cons_zero, List.setIfInBounds_toArray, List.set_cons_zero, List.set_cons_succ]
              refine wpAnyH_take (i := 4) (oi := ?oiq5) (v := (.int .i64 l.to)) ?hiq5 (by kernel_rfl) (by kernel_rfl) (by kernel_rfl) ?hqq5 ?hyq5 hHeld ?restq5
              case hiq5 => exact rfl
              case hqq5 => exact fun _ _ _ h => h
              case hyq5 =>
                refine Or.inl ⟨by rfl, ?_⟩
                intro w hSw
                have z0 : w.cell? ⟨T7, 0, none⟩ = some (.int .i64 l.op) := hp_cell hSw.2 (by rfl)
                have z1 : w.cell? ⟨T7, 1, none⟩ = some (.int .i64 l.to) := hp_cell hSw.2 (by rfl)
                have z2 : w.cell? ⟨T7, 2, none⟩ = some (.int .i64 l.a) := hp_cell hSw.2 (by rfl)
                have z3 : w.cell? ⟨T7, 3, none⟩ = some (.int .i64 l.b) := hp_cell hSw.2 (by rfl)
                go_simp
                (try with_reducible rfl)
              try simp only [Act.put, List.getElem_toArray, List.getElem_cons_succ, List.getElem_cons_zero, List.setIfInBounds_toArray, List.set_cons_zero, List.set_cons_succ]
              refine wpAnyH_take (i := 5) (oi := ?oiq6) (v := (.int .i64 ((k : Int) + 1 + l.to))) ?hiq6 (by kernel_rfl) (by kernel_rfl) (by kernel_rfl) ?hqq6 ?hyq6 hHeld ?restq6
              case hiq6 => exact rfl
              case hqq6 => exact fun _ _ _ h => h
              case hyq6 =>
                refine Or.inl ⟨by rfl, ?_⟩
                intro w hSw
                go_simp
                (try rw [HWT.out])
                (try rfl)
                (try with_reducible rfl)
              try simp only [Act.put, List.getElem_toArray, List.getElem_cons_succ, List.getElem_cons_zero, List.setIfInBounds_toArray, List.set_cons_zero, List.set_cons_succ]
              refine wpAnyH_take (i := 6) (oi := ?oiq7) (v := ?vq7) ?hiq7 (by kernel_rfl) (by kernel_rfl) (by kernel_rfl) ?hqq7 ?hyq7 hHeld ?restq7
              case hiq7 => exact rfl
              case hqq7 => exact fun _ _ _ h => h
              case hyq7 =>
                refine Or.inl ⟨by rfl, ?_⟩
                intro w hSw
                go_simp
                (try with_reducible rfl)
              try simp only [Act.put, List.getElem_toArray, List.getElem_cons_succ, List.getElem_cons_zero, List.setIfInBounds_toArray, List.set_cons_zero, List.set_cons_succ]
              refine wpAnyH_take (i := 7) (oi := ?oiq8) (v := (.int .i64 (ps.length : Int))) ?hiq8 (by kernel_rfl) (by kernel_rfl) (by kernel_rfl) ?hqq8 ?hyq8 hHeld ?restq8
              case hiq8 => exact rfl
              case hqq8 => exact fun _ _ _ h => h
              case hyq8 =>
                refine Or.inl ⟨by rfl, ?_⟩
                intro w hSw
                go_simp
                (try with_reducible rfl)
              try simp only [Act.put, List.getElem_toArray, List.getElem_cons_succ, List.getElem_cons_zero, List.setIfInBounds_toArray, List.set_cons_zero, List.set_cons_succ]
              refine wpAnyH_take (i := 8) (oi := ?oiq9) (v := (.int .i64 ((k : Int) + 1 + l.to))) ?hiq9 (by kernel_rfl) (by kernel_rfl) (by kernel_rfl) ?hqq9 ?hyq9 hHeld ?restq9
              case hiq9 => exact rfl
              case hqq9 => exact fun _ _ _ h => h
              case hyq9 =>
                refine Or.inl ⟨by rfl, ?_⟩
                intro w hSw
                go_simp
                (try rw [if_pos (by omega)])
                (try rw [if_neg (by omega)])
                (try simp)
                (try rfl)
                (try omega)
                (try with_reducible rfl)
              try simp only [Act.put, List.getElem_toArray, List.getElem_cons_succ, List.getElem_cons_zero, List.setIfInBounds_toArray, List.set_cons_zero, List.set_cons_succ]
              refine wpAnyH_take (i := 9) (oi := ?oiq10) (v := (.pointer (some ⟨G, (k + 1 + t) * 9, none⟩))) ?hiq10 (by kernel_rfl) (by kernel_rfl) (by kernel_rfl) ?hqq10 ?hyq10 hHeld ?restq10
              case hiq10 => exact rfl
              case hqq10 => exact fun _ _ _ h => h
              case hyq10 =>
                refine Or.inl ⟨by rfl, ?_⟩
                intro w hSw
                go_simp
                (try rw [if_pos (by omega)])
                (try simp [HTT.out])
                (try rfl)
                (try omega)
                (try with_reducible rfl)
              try simp only [Act.put, List.getElem_toArray, List.getElem_cons_succ, List.getElem_cons_zero, List.setIfInBounds_toArray, List.set_cons_zero, List.set_cons_succ]
              refine wpAnyH_take (i := 10) (oi := ?oiq11) (v := ?vq11) ?hiq11 (by kernel_rfl) (by kernel_rfl) (by kernel_rfl) ?hqq11 ?hyq11 hHeld ?restq11
              case hiq11 => exact rfl
              case hqq11 => exact fun _ _ _ h => h
              case hyq11 =>
                refine Or.inl ⟨by rfl, ?_⟩
                intro w hSw
                go_simp
                (try with_reducible rfl)
              try simp only [Act.put, List.getElem_toArray, List.getElem_cons_succ, List.getElem_cons_zero, List.setIfInBounds_toArray, List.set_cons_zero, List.set_cons_succ]
              refine wpAnyH_take (i := 11) (oi := ?oiq12) (v := (.agg #[.int .i64 y0.lo, .int .i64 y0.hi, .int .i64 y1.lo, .int .i64 y1.hi, .int .i64 y2.lo, .int .i64 y2.hi, .int .i64 y3.lo, .int .i64 y3.hi])) ?hiq12 (by kernel_rfl) (by kernel_rfl) (by kernel_rfl) ?hqq12 ?hyq12 hHeld ?restq12
              case hiq12 => exact rfl
              case hqq12 => exact fun _ _ _ h => h
              case hyq12 =>
                refine Or.inl ⟨by rfl, ?_⟩
                intro w hSw
                have z0 : w.cell? ⟨T8, 1, none⟩ = some (.int .i64 y0.lo) := hp_cell hSw.1 (by rfl)
                have z1 : w.cell? ⟨T8, 2, none⟩ = some (.int .i64 y0.hi) := hp_cell hSw.1 (by rfl)
                have z2 : w.cell? ⟨T8, 3, none⟩ = some (.int .i64 y1.lo) := hp_cell hSw.1 (by rfl)
                have z3 : w.cell? ⟨T8, 4, none⟩ = some (.int .i64 y1.hi) := hp_cell hSw.1 (by rfl)
                have z4 : w.cell? ⟨T8, 5, none⟩ = some (.int .i64 y2.lo) := hp_cell hSw.1 (by rfl)
                have z5 : w.cell? ⟨T8, 6, none⟩ = some (.int .i64 y2.hi) := hp_cell hSw.1 (by rfl)
                have z6 : w.cell? ⟨T8, 7, none⟩ = some (.int .i64 y3.lo) := hp_cell hSw.1 (by rfl)
                have z7 : w.cell? ⟨T8, 8, none⟩ = some (.int .i64 y3.hi) := hp_cell hSw.1 (by rfl)
                go_simp
                (try with_reducible rfl)
              try simp only [Act.put, List.getElem_toArray, List.getElem_cons_succ, List.getElem_cons_zero, List.setIfInBounds_toArray, List.set_cons_zero, List.set_cons_succ]
              refine wpAnyH_ready (rs := [12]) (by kernel_rfl) (by simp) ?_
              refine AllReadyH.cons (o := ?or13_12) ?hr13_12 ?kr13_12 AllReadyH.nil
              case hr13_12 => exact rfl
              case kr13_12 =>
                intro K hK
                go_simp
                refine (HRC2.out (k + 1 + t) HJJ.out _ (hp_drew HGx.out)).mono ?_
                rintro e wb ⟨rfl, hgb, hob⟩
                have HGG := Lib.hid hgb
                have HG8 := Off.blk hob (hp_drew H8.out) HNE.out.1
                have HG7 := Off.blk hob (hp_drew H7.out) HNE.out.2
                have HGO := Lib.hid (HBA.out.drew.trans (hob.below HGW.out HBA.out.size))
                refine hK.out _ _ ⟨HG8, HG7⟩ (fun hHeld => ?_)
                clear hK K
                try simp only [Act.put, List.getElem_toArray, List.getElem_cons_succ, List.getElem_cons_zero, List.setIfInBounds_toArray, List.set_cons_zero, List.set_cons_succ]
                refine wpAnyH_done (by kernel_rfl) ?_ _
                clear hHeld
                go_wp2_with fail
                go_roundw
                case rel => exact ⟨k + 1, by omega, by go_num, by rw [HST.out]; exact HGG.out, HGO.out⟩
                case measure => simp [intOf]; omega

            · have HJJ := Lib.hid (Nat.le_refl ps.length)
              have hm1 : (ps.length : Int) ≤ (k : Int) + 1 + l.to := by omega
              have hm2 : ¬ (k : Int) + 1 + l.to ≤ (ps.length : Int) := by omega
              have hm3 : (ps.length : Int) < (k : Int) + 1 + l.to := by omega
              have HST := Lib.hid (show SA (k + 1) = recv (SA k) ps.length [y0, y1, y2, y3] by rw [HST0.out, hs, if_pos rfl, HG1.out, show min (k + 1 + l.to.toNat) ps.length = ps.length by omega]; (try rfl))
              clear hs ht
              go_upto_region 11 with fail
              refine wp_region_held_drew (S := (fun W => W.heap[T8]? = some (.cells #[.bool true, .int .i64 y0.lo, .int .i64 y0.hi, .int .i64 y1.lo, .int .i64 y1.hi, .int .i64 y2.lo, .int .i64 y2.hi, .int .i64 y3.lo, .int .i64 y3.hi] 78 (0, 0)) ∧ W.heap[T7]? = some (.cells #[.int .i64 l.op, .int .i64 l.to, .int .i64 l.a, .int .i64 l.b] 50 (0, 0)))) (by kernel_rfl) ?_ (fun hHeld => ?_)
              · exact ⟨hp_drew H8.out, hp_drew H7.out⟩
              refine wpAnyH_take (i := 0) (oi := ?oiq14) (v := ?vq14) ?hiq14 (by kernel_rfl) (by kernel_rfl) (by kernel_rfl) ?hqq14 ?hyq14 hHeld ?restq14
              case hiq14 => exact rfl
              case hqq14 => exact fun _ _ _ h => h
              case hyq14 =>
                refine Or.inl ⟨by rfl, ?_⟩
                intro w hSw
                go_simp
                (try with_reducible rfl)
              try simp only [Act.put, List.getElem_toArray, List.getElem_cons_succ, List.getElem_cons_zero, List.setIfInBounds_toArray, List.set_cons_zero, List.set_cons_succ]
              refine wpAnyH_take (i := 1) (oi := ?oiq15) (v := ?vq15) ?hiq15 (by kernel_rfl) (by kernel_rfl) (by kernel_rfl) ?hqq15 ?hyq15 hHeld ?restq15
              case hiq15 => exact rfl
              case hqq15 => exact fun _ _ _ h => h
              case hyq15 =>
                refine Or.inl ⟨by rfl, ?_⟩
                intro w hSw
                go_simp
                (try with_reducible rfl)
              try simp only [Act.put, List.getElem_toArray, List.getElem_cons_succ, List.getElem_cons_zero, List.setIfInBounds_toArray, List.set_cons_zero, List.set_cons_succ]
              refine wpAnyH_take (i := 2) (oi := ?oiq16) (v := (.int .i64 ((k : Int) + 1))) ?hiq16 (by kernel_rfl) (by kernel_rfl) (by kernel_rfl) ?hqq16 ?hyq16 hHeld ?restq16
              case hiq16 => exact rfl
              case hqq16 => exact fun _ _ _ h => h
              case hyq16 =>
                refine Or.inl ⟨by rfl, ?_⟩
                intro w hSw
                go_simp
                (try rw [HWK.out])
                (try rfl)
                (try with_reducible rfl)
              try simp only [Act.put, List.getElem_toArray, List.getElem_cons_succ, List.getElem_cons_zero, List.setIfInBounds_toArray, List.set_cons_zero, List.set_cons_succ]
              refine wpAnyH_take (i := 3) (oi := ?oiq17) (v := ?vq17) ?hiq17 (by kernel_rfl) (by kernel_rfl) (by kernel_rfl) ?hqq17 ?hyq17 hHeld ?restq17
              case hiq17 => exact rfl
              case hqq17 => exact fun _ _ _ h => h
              case hyq17 =>
                refine Or.inl ⟨by rfl, ?_⟩
                intro w hSw
                go_simp
                (try with_reducible rfl)
              try simp only [Act.put, List.getElem_toArray, List.getElem_cons_succ, List.getElem_cons_zero, List.setIfInBounds_toArray, List.set_cons_zero, List.set_cons_succ]
              refine wpAnyH_take (i := 4) (oi := ?oiq18) (v := (.int .i64 l.to)) ?hiq18 (by kernel_rfl) (by kernel_rfl) (by kernel_rfl) ?hqq18 ?hyq18 hHeld ?restq18
              case hiq18 => exact rfl
              case hqq18 => exact fun _ _ _ h => h
              case hyq18 =>
                refine Or.inl ⟨by rfl, ?_⟩
                intro w hSw
                have z0 : w.cell? ⟨T7, 0, none⟩ = some (.int .i64 l.op) := hp_cell hSw.2 (by rfl)
                have z1 : w.cell? ⟨T7, 1, none⟩ = some (.int .i64 l.to) := hp_cell hSw.2 (by rfl)
                have z2 : w.cell? ⟨T7, 2, none⟩ = some (.int .i64 l.a) := hp_cell hSw.2 (by rfl)
                have z3 : w.cell? ⟨T7, 3, none⟩ = some (.int .i64 l.b) := hp_cell hSw.2 (by rfl)
                go_simp
                (try with_reducible rfl)
              try simp only [Act.put, List.getElem_toArray, List.getElem_cons_succ, List.getElem_cons_zero, List.setIfInBounds_toArray, List.set_cons_zero, List.set_cons_succ]
              refine wpAnyH_take (i := 5) (oi := ?oiq19) (v := (.int .i64 ((k : Int) + 1 + l.to))) ?hiq19 (by kernel_rfl) (by kernel_rfl) (by kernel_rfl) ?hqq19 ?hyq19 hHeld ?restq19
              case hiq19 => exact rfl
              case hqq19 => exact fun _ _ _ h => h
              case hyq19 =>
                refine Or.inl ⟨by rfl, ?_⟩
                intro w hSw
                go_simp
                (try rw [HWT.out])
                (try rfl)
                (try with_reducible rfl)
              try simp only [Act.put, List.getElem_toArray, List.getElem_cons_succ, List.getElem_cons_zero, List.setIfInBounds_toArray, List.set_cons_zero, List.set_cons_succ]
              refine wpAnyH_take (i := 6) (oi := ?oiq20) (v := ?vq20) ?hiq20 (by kernel_rfl) (by kernel_rfl) (by kernel_rfl) ?hqq20 ?hyq20 hHeld ?restq20
              case hiq20 => exact rfl
              case hqq20 => exact fun _ _ _ h => h
              case hyq20 =>
                refine Or.inl ⟨by rfl, ?_⟩
                intro w hSw
                go_simp
                (try with_reducible rfl)
              try simp only [Act.put, List.getElem_toArray, List.getElem_cons_succ, List.getElem_cons_zero, List.setIfInBounds_toArray, List.set_cons_zero, List.set_cons_succ]
              refine wpAnyH_take (i := 7) (oi := ?oiq21) (v := (.int .i64 (ps.length : Int))) ?hiq21 (by kernel_rfl) (by kernel_rfl) (by kernel_rfl) ?hqq21 ?hyq21 hHeld ?restq21
              case hiq21 => exact rfl
              case hqq21 => exact fun _ _ _ h => h
              case hyq21 =>
                refine Or.inl ⟨by rfl, ?_⟩
                intro w hSw
                go_simp
                (try with_reducible rfl)
              try simp only [Act.put, List.getElem_toArray, List.getElem_cons_succ, List.getElem_cons_zero, List.setIfInBounds_toArray, List.set_cons_zero, List.set_cons_succ]
              refine wpAnyH_take (i := 8) (oi := ?oiq22) (v := (.int .i64 (ps.length : Int))) ?hiq22 (by kernel_rfl) (by kernel_rfl) (by kernel_rfl) ?hqq22 ?hyq22 hHeld ?restq22
              case hiq22 => exact rfl
              case hqq22 => exact fun _ _ _ h => h
              case hyq22 =>
                refine Or.inl ⟨by rfl, ?_⟩
                intro w hSw
                go_simp
                (try rw [if_pos (by omega)])
                (try rw [if_neg (by omega)])
                (try simp)
                (try rfl)
                (try omega)
                (try with_reducible rfl)
              try simp only [Act.put, List.getElem_toArray, List.getElem_cons_succ, List.getElem_cons_zero, List.setIfInBounds_toArray, List.set_cons_zero, List.set_cons_succ]
              refine wpAnyH_take (i := 9) (oi := ?oiq23) (v := (.pointer (some ⟨G, ps.length * 9, none⟩))) ?hiq23 (by kernel_rfl) (by kernel_rfl) (by kernel_rfl) ?hqq23 ?hyq23 hHeld ?restq23
              case hiq23 => exact rfl
              case hqq23 => exact fun _ _ _ h => h
              case hyq23 =>
                refine Or.inl ⟨by rfl, ?_⟩
                intro w hSw
                go_simp
                (try rw [if_pos (by omega)])
                (try simp [HTT.out])
                (try rfl)
                (try omega)
                (try with_reducible rfl)
              try simp only [Act.put, List.getElem_toArray, List.getElem_cons_succ, List.getElem_cons_zero, List.setIfInBounds_toArray, List.set_cons_zero, List.set_cons_succ]
              refine wpAnyH_take (i := 10) (oi := ?oiq24) (v := ?vq24) ?hiq24 (by kernel_rfl) (by kernel_rfl) (by kernel_rfl) ?hqq24 ?hyq24 hHeld ?restq24
              case hiq24 => exact rfl
              case hqq24 => exact fun _ _ _ h => h
              case hyq24 =>
                refine Or.inl ⟨by rfl, ?_⟩
                intro w hSw
                go_simp
                (try with_reducible rfl)
              try simp only [Act.put, List.getElem_toArray, List.getElem_cons_succ, List.getElem_cons_zero, List.setIfInBounds_toArray, List.set_cons_zero, List.set_cons_succ]
              refine wpAnyH_take (i := 11) (oi := ?oiq25) (v := (.agg #[.int .i64 y0.lo, .int .i64 y0.hi, .int .i64 y1.lo, .int .i64 y1.hi, .int .i64 y2.lo, .int .i64 y2.hi, .int .i64 y3.lo, .int .i64 y3.hi])) ?hiq25 (by kernel_rfl) (by kernel_rfl) (by kernel_rfl) ?hqq25 ?hyq25 hHeld ?restq25
              case hiq25 => exact rfl
              case hqq25 => exact fun _ _ _ h => h
              case hyq25 =>
                refine Or.inl ⟨by rfl, ?_⟩
                intro w hSw
                have z0 : w.cell? ⟨T8, 1, none⟩ = some (.int .i64 y0.lo) := hp_cell hSw.1 (by rfl)
                have z1 : w.cell? ⟨T8, 2, none⟩ = some (.int .i64 y0.hi) := hp_cell hSw.1 (by rfl)
                have z2 : w.cell? ⟨T8, 3, none⟩ = some (.int .i64 y1.lo) := hp_cell hSw.1 (by rfl)
                have z3 : w.cell? ⟨T8, 4, none⟩ = some (.int .i64 y1.hi) := hp_cell hSw.1 (by rfl)
                have z4 : w.cell? ⟨T8, 5, none⟩ = some (.int .i64 y2.lo) := hp_cell hSw.1 (by rfl)
                have z5 : w.cell? ⟨T8, 6, none⟩ = some (.int .i64 y2.hi) := hp_cell hSw.1 (by rfl)
                have z6 : w.cell? ⟨T8, 7, none⟩ = some (.int .i64 y3.lo) := hp_cell hSw.1 (by rfl)
                have z7 : w.cell? ⟨T8, 8, none⟩ = some (.int .i64 y3.hi) := hp_cell hSw.1 (by rfl)
                go_simp
                (try with_reducible rfl)
              try simp only [Act.put, List.getElem_toArray, List.getElem_cons_succ, List.getElem_cons_zero, List.setIfInBounds_toArray, List.set_cons_zero, List.set_cons_succ]
              refine wpAnyH_ready (rs := [12]) (by kernel_rfl) (by simp) ?_
              refine AllReadyH.cons (o := ?or26_12) ?hr26_12 ?kr26_12 AllReadyH.nil
              case hr26_12 => exact rfl
              case kr26_12 =>
                intro K hK
                go_simp
                refine (HRC2.out ps.length HJJ.out _ (hp_drew HGx.out)).mono ?_
                rintro e wb ⟨rfl, hgb, hob⟩
                have HGG := Lib.hid hgb
                have HG8 := Off.blk hob (hp_drew H8.out) HNE.out.1
                have HG7 := Off.blk hob (hp_drew H7.out) HNE.out.2
                have HGO := Lib.hid (HBA.out.drew.trans (hob.below HGW.out HBA.out.size))
                refine hK.out _ _ ⟨HG8, HG7⟩ (fun hHeld => ?_)
                clear hK K
                try simp only [Act.put, List.getElem_toArray, List.getElem_cons_succ, List.getElem_cons_zero, List.setIfInBounds_toArray, List.set_cons_zero, List.set_cons_succ]
                refine wpAnyH_done (by kernel_rfl) ?_ _
                clear hHeld
                go_wp2_with fail
                go_roundw
                case rel => exact ⟨k + 1, by omega, by go_num, by rw [HST.out]; exact HGG.out, HGO.out⟩
                case measure => simp [intOf]; omega
        · have HG1 := Lib.hid (show (if goB l [y0, y1, y2, y3] = true then recv (SA k) (k + 1) (afB l [y0, y1, y2, y3]) else SA k) = recv (SA k) (k + 1) (afB l [y0, y1, y2, y3]) by rw [hg]; rfl)
          clear hg
          go_upto_region 9 with fail
          refine wp_region_held_drew (S := (fun W => W.heap[T8]? = some (.cells #[.bool true, .int .i64 y0.lo, .int .i64 y0.hi, .int .i64 y1.lo, .int .i64 y1.hi, .int .i64 y2.lo, .int .i64 y2.hi, .int .i64 y3.lo, .int .i64 y3.hi] 78 (0, 0)) ∧ W.heap[T7]? = some (.cells #[.int .i64 l.op, .int .i64 l.to, .int .i64 l.a, .int .i64 l.b] 50 (0, 0)))) (by kernel_rfl) ?_ (fun hHeld => ?_)
          · exact ⟨hp_drew H8.out, hp_drew H7.out⟩
          refine wpAnyH_take (i := 0) (oi := ?oiq53) (v := ?vq53) ?hiq53 (by kernel_rfl) (by kernel_rfl) (by kernel_rfl) ?hqq53 ?hyq53 hHeld ?restq53
          case hiq53 => exact rfl
          case hqq53 => exact fun _ _ _ h => h
          case hyq53 =>
            refine Or.inl ⟨by rfl, ?_⟩
            intro w hSw
            go_simp
            (try with_reducible rfl)
          try simp only [Act.put, List.getElem_toArray, List.getElem_cons_succ, List.getElem_cons_zero, List.setIfInBounds_toArray, List.set_cons_zero, List.set_cons_succ]
          refine wpAnyH_take (i := 1) (oi := ?oiq54) (v := ?vq54) ?hiq54 (by kernel_rfl) (by kernel_rfl) (by kernel_rfl) ?hqq54 ?hyq54 hHeld ?restq54
          case hiq54 => exact rfl
          case hqq54 => exact fun _ _ _ h => h
          case hyq54 =>
            refine Or.inl ⟨by rfl, ?_⟩
            intro w hSw
            go_simp
            (try with_reducible rfl)
          try simp only [Act.put, List.getElem_toArray, List.getElem_cons_succ, List.getElem_cons_zero, List.setIfInBounds_toArray, List.set_cons_zero, List.set_cons_succ]
          refine wpAnyH_take (i := 2) (oi := ?oiq55) (v := (.int .i64 ((k : Int) + 1))) ?hiq55 (by kernel_rfl) (by kernel_rfl) (by kernel_rfl) ?hqq55 ?hyq55 hHeld ?restq55
          case hiq55 => exact rfl
          case hqq55 => exact fun _ _ _ h => h
          case hyq55 =>
            refine Or.inl ⟨by rfl, ?_⟩
            intro w hSw
            go_simp
            (try rw [HWK.out])
            (try rfl)
            (try with_reducible rfl)
          try simp only [Act.put, List.getElem_toArray, List.getElem_cons_succ, List.getElem_cons_zero, List.setIfInBounds_toArray, List.set_cons_zero, List.set_cons_succ]
          refine wpAnyH_take (i := 3) (oi := ?oiq56) (v := (.pointer (some ⟨G, (k + 1) * 9, none⟩))) ?hiq56 (by kernel_rfl) (by kernel_rfl) (by kernel_rfl) ?hqq56 ?hyq56 hHeld ?restq56
          case hiq56 => exact rfl
          case hqq56 => exact fun _ _ _ h => h
          case hyq56 =>
            refine Or.inl ⟨by rfl, ?_⟩
            intro w hSw
            go_simp
            (try rw [if_pos (by omega)])
            (try simp)
            (try rfl)
            (try omega)
            (try with_reducible rfl)
          try simp only [Act.put, List.getElem_toArray, List.getElem_cons_succ, List.getElem_cons_zero, List.setIfInBounds_toArray, List.set_cons_zero, List.set_cons_succ]
          refine wpAnyH_take (i := 4) (oi := ?oiq57) (v := ?vq57) ?hiq57 (by kernel_rfl) (by kernel_rfl) (by kernel_rfl) ?hqq57 ?hyq57 hHeld ?restq57
          case hiq57 => exact rfl
          case hqq57 => exact fun _ _ _ h => h
          case hyq57 =>
            refine Or.inl ⟨by rfl, ?_⟩
            intro w hSw
            go_simp
            (try with_reducible rfl)
          try simp only [Act.put, List.getElem_toArray, List.getElem_cons_succ, List.getElem_cons_zero, List.setIfInBounds_toArray, List.set_cons_zero, List.set_cons_succ]
          refine wpAnyH_take (i := 5) (oi := ?oiq58) (v := (.agg #[.int .i64 y0.lo, .int .i64 y0.hi, .int .i64 y1.lo, .int .i64 y1.hi, .int .i64 y2.lo, .int .i64 y2.hi, .int .i64 y3.lo, .int .i64 y3.hi])) ?hiq58 (by kernel_rfl) (by kernel_rfl) (by kernel_rfl) ?hqq58 ?hyq58 hHeld ?restq58
          case hiq58 => exact rfl
          case hqq58 => exact fun _ _ _ h => h
          case hyq58 =>
            refine Or.inl ⟨by rfl, ?_⟩
            intro w hSw
            have z0 : w.cell? ⟨T8, 1, none⟩ = some (.int .i64 y0.lo) := hp_cell hSw.1 (by rfl)
            have z1 : w.cell? ⟨T8, 2, none⟩ = some (.int .i64 y0.hi) := hp_cell hSw.1 (by rfl)
            have z2 : w.cell? ⟨T8, 3, none⟩ = some (.int .i64 y1.lo) := hp_cell hSw.1 (by rfl)
            have z3 : w.cell? ⟨T8, 4, none⟩ = some (.int .i64 y1.hi) := hp_cell hSw.1 (by rfl)
            have z4 : w.cell? ⟨T8, 5, none⟩ = some (.int .i64 y2.lo) := hp_cell hSw.1 (by rfl)
            have z5 : w.cell? ⟨T8, 6, none⟩ = some (.int .i64 y2.hi) := hp_cell hSw.1 (by rfl)
            have z6 : w.cell? ⟨T8, 7, none⟩ = some (.int .i64 y3.lo) := hp_cell hSw.1 (by rfl)
            have z7 : w.cell? ⟨T8, 8, none⟩ = some (.int .i64 y3.hi) := hp_cell hSw.1 (by rfl)
            go_simp
            (try with_reducible rfl)
          try simp only [Act.put, List.getElem_toArray, List.getElem_cons_succ, List.getElem_cons_zero, List.setIfInBounds_toArray, List.set_cons_zero, List.set_cons_succ]
          refine wpAnyH_take (i := 6) (oi := ?oiq59) (v := (.agg #[.int .i64 l.op, .int .i64 l.to, .int .i64 l.a, .int .i64 l.b])) ?hiq59 (by kernel_rfl) (by kernel_rfl) (by kernel_rfl) ?hqq59 ?hyq59 hHeld ?restq59
          case hiq59 => exact rfl
          case hqq59 => exact fun _ _ _ h => h
          case hyq59 =>
            refine Or.inl ⟨by rfl, ?_⟩
            intro w hSw
            have z0 : w.cell? ⟨T7, 0, none⟩ = some (.int .i64 l.op) := hp_cell hSw.2 (by rfl)
            have z1 : w.cell? ⟨T7, 1, none⟩ = some (.int .i64 l.to) := hp_cell hSw.2 (by rfl)
            have z2 : w.cell? ⟨T7, 2, none⟩ = some (.int .i64 l.a) := hp_cell hSw.2 (by rfl)
            have z3 : w.cell? ⟨T7, 3, none⟩ = some (.int .i64 l.b) := hp_cell hSw.2 (by rfl)
            go_simp
            (try with_reducible rfl)
          try simp only [Act.put, List.getElem_toArray, List.getElem_cons_succ, List.getElem_cons_zero, List.setIfInBounds_toArray, List.set_cons_zero, List.set_cons_succ]
          refine wpAnyH_ready (rs := [7]) (by kernel_rfl) (by simp) ?_
          refine AllReadyH.cons (o := ?or61_7) ?hr61_7 ?kr61_7 AllReadyH.nil
          case hr61_7 => exact rfl
          case kr61_7 =>
            intro K hK
            go_simp
            refine (HAF.out _).mono ?_
            rintro e wa ⟨rfl, hBa⟩
            have HAB := Lib.hid hBa
            have HGA := Lib.hid (hp_below (hp_drew HGx.out) hBa (hp_lt HGx.out))
            have HA8 := Lib.hid (hp_below (hp_drew H8.out) hBa (hp_lt H8.out))
            have HA7 := Lib.hid (hp_below (hp_drew H7.out) hBa (hp_lt H7.out))
            clear hBa
            refine hK.out _ _ ⟨HA8.out, HA7.out⟩ (fun hHeld => ?_)
            clear hK K
            try simp only [Act.put, List.getElem_toArray, List.getElem_cons_succ, List.getElem_cons_zero, List.setIfInBounds_toArray, List.set_cons_zero, List.set_cons_succ]
            refine wpAnyH_ready (rs := [8]) (by kernel_rfl) (by simp) ?_
            refine AllReadyH.cons (o := ?or60_8) ?hr60_8 ?kr60_8 AllReadyH.nil
            case hr60_8 => exact rfl
            case kr60_8 =>
              intro K hK
              go_simp
              refine (HRC.out _ HGA.out).mono ?_
              rintro e wb ⟨rfl, hgb, hob⟩
              have H8 := Lib.hid (Off.blk hob HA8.out HNE.out.1)
              have H7 := Lib.hid (Off.blk hob HA7.out HNE.out.2)
              have HGx := Lib.hid hgb
              have HBA := Lib.hid ((HBA.out.drew.trans (HAB.out.mono HBA.out.size)).trans (hob.below HGW.out (Nat.le_trans HBA.out.size HAB.out.size)))
              clear hgb hob HA8 HA7 HGA HAB
              refine hK.out _ _ ⟨H8.out, H7.out⟩ (fun hHeld => ?_)
              clear hK K
              try simp only [Act.put, List.getElem_toArray, List.getElem_cons_succ, List.getElem_cons_zero, List.setIfInBounds_toArray, List.set_cons_zero, List.set_cons_succ]
              refine wpAnyH_done (by kernel_rfl) ?_ _
              clear hHeld
              have HOK1 := Lib.hid ((okSt_recv (HOK.out k) (okB_af HLN2.out HYO.out) (by rw [HLN.out]; omega)) : OkSt (recv (SA k) (k + 1) (afB l [y0, y1, y2, y3])))
              have HL1 := Lib.hid (show (recv (SA k) (k + 1) (afB l [y0, y1, y2, y3])).length = ps.length + 1 by rw [recv_len]; exact HLN.out k)
              have HRC2 := Lib.hid (fun J (hJ : J ≤ ps.length) w hg => HRCV.out G J (recv (SA k) (k + 1) (afB l [y0, y1, y2, y3])) [y0, y1, y2, y3] w hg (L4_of HOK1.out) (by rw [HL1.out]; omega) rfl)
              rw [bx_4] at HRC2
              have d0 := hp_cell H8.out (j := 0) (by rfl)
              have d1 := hp_cell H8.out (j := 1) (by rfl)
              have d2 := hp_cell H8.out (j := 2) (by rfl)
              have d3 := hp_cell H8.out (j := 3) (by rfl)
              have d4 := hp_cell H8.out (j := 4) (by rfl)
              have d5 := hp_cell H8.out (j := 5) (by rfl)
              have d6 := hp_cell H8.out (j := 6) (by rfl)
              have d7 := hp_cell H8.out (j := 7) (by rfl)
              have d8 := hp_cell H8.out (j := 8) (by rfl)
              have e0 := hp_cell H7.out (j := 0) (by rfl)
              have e1 := hp_cell H7.out (j := 1) (by rfl)
              have e2 := hp_cell H7.out (j := 2) (by rfl)
              have e3 := hp_cell H7.out (j := 3) (by rfl)
              go_wp2_with fail
              clear d0 d1 d2 d3 d4 d5 d6 d7 d8 e0 e1 e2 e3
              refine (HSK.out _).mono ?_
              rintro e w5 ⟨rfl, hB5⟩
              have H8 := Lib.hid (hp_below H8.out hB5 (hp_lt H8.out))
              have H7 := Lib.hid (hp_below H7.out hB5 (hp_lt H7.out))
              have HGx := Lib.hid (hp_below HGx.out hB5 (hp_lt HGx.out))
              have HBA := Lib.hid (HBA.out.trans (hB5.mono HBA.out.size))
              clear hB5
              cases hs : skpB l [y0, y1, y2, y3]
              · have HST := Lib.hid (show SA (k + 1) = recv (SA k) (k + 1) (afB l [y0, y1, y2, y3]) by rw [HST0.out, hs, if_neg (by simp), HG1.out]; (try rfl))
                clear hs
                go_wp2_with fail
                go_roundw
                case rel => exact ⟨k + 1, by omega, by go_num, by rw [HST.out]; exact HGx.out, HBA.out⟩
                case measure => simp [intOf]; omega
              · obtain ⟨t, ht⟩ : ∃ t : Nat, l.to = (t : Int) := ⟨l.to.toNat, by have := HTO.out hs; omega⟩
                have htb := HTO.out hs
                have HTT := Lib.hid ht
                have HWT := Lib.hid (show IntKind.i64.wrap ((k : Int) + 1 + l.to) = (k : Int) + 1 + l.to from IntWalk.i64_in _ (by omega))
                by_cases hm : k + 1 + t ≤ ps.length
                · have HJJ := Lib.hid hm
                  have hm1 : (k : Int) + 1 + l.to ≤ (ps.length : Int) := by omega
                  have hm2 : ¬ (ps.length : Int) < (k : Int) + 1 + l.to := by omega
                  have HST := Lib.hid (show SA (k + 1) = recv (recv (SA k) (k + 1) (afB l [y0, y1, y2, y3])) (k + 1 + t) [y0, y1, y2, y3] by rw [HST0.out, hs, if_pos rfl, HG1.out, show min (k + 1 + l.to.toNat) ps.length = k + 1 + t by omega]; (try rfl))
                  clear hs ht
                  go_upto_region 11 with fail
                  refine wp_region_held_drew (S := (fun W => W.heap[T8]? = some (.cells #[.bool true, .int .i64 y0.lo, .int .i64 y0.hi, .int .i64 y1.lo, .int .i64 y1.hi, .int .i64 y2.lo, .int .i64 y2.hi, .int .i64 y3.lo, .int .i64 y3.hi] 78 (0, 0)) ∧ W.heap[T7]? = some (.cells #[.int .i64 l.op, .int .i64 l.to, .int .i64 l.a, .int .i64 l.b] 50 (0, 0)))) (by kernel_rfl) ?_ (fun hHeld => ?_)
                  · exact ⟨hp_drew H8.out, hp_drew H7.out⟩
                  refine wpAnyH_take (i := 0) (oi := ?oiq27) (v := ?vq27) ?hiq27 (by kernel_rfl) (by kernel_rfl) (by kernel_rfl) ?hqq27 ?hyq27 hHeld ?restq27
                  case hiq27 => exact rfl
                  case hqq27 => exact fun _ _ _ h => h
                  case hyq27 =>
                    refine Or.inl ⟨by rfl, ?_⟩
                    intro w hSw
                    go_simp
                    (try with_reducible rfl)
                  try simp only [Act.put, List.getElem_toArray, List.getElem_cons_succ, List.getElem_cons_zero, List.setIfInBounds_toArray, List.set_cons_zero, List.set_cons_succ]
                  refine wpAnyH_take (i := 1) (oi := ?oiq28) (v := ?vq28) ?hiq28 (by kernel_rfl) (by kernel_rfl) (by kernel_rfl) ?hqq28 ?hyq28 hHeld ?restq28
                  case hiq28 => exact rfl
                  case hqq28 => exact fun _ _ _ h => h
                  case hyq28 =>
                    refine Or.inl ⟨by rfl, ?_⟩
                    intro w hSw
                    go_simp
                    (try with_reducible rfl)
                  try simp only [Act.put, List.getElem_toArray, List.getElem_cons_succ, List.getElem_cons_zero, List.setIfInBounds_toArray, List.set_cons_zero, List.set_cons_succ]
                  refine wpAnyH_take (i := 2) (oi := ?oiq29) (v := (.int .i64 ((k : Int) + 1))) ?hiq29 (by kernel_rfl) (by kernel_rfl) (by kernel_rfl) ?hqq29 ?hyq29 hHeld ?restq29
                  case hiq29 => exact rfl
                  case hqq29 => exact fun _ _ _ h => h
                  case hyq29 =>
                    refine Or.inl ⟨by rfl, ?_⟩
                    intro w hSw
                    go_simp
                    (try rw [HWK.out])
                    (try rfl)
                    (try with_reducible rfl)
                  try simp only [Act.put, List.getElem_toArray, List.getElem_cons_succ, List.getElem_cons_zero, List.setIfInBounds_toArray, List.set_cons_zero, List.set_cons_succ]
                  refine wpAnyH_take (i := 3) (oi := ?oiq30) (v := ?vq30) ?hiq30 (by kernel_rfl) (by kernel_rfl) (by kernel_rfl) ?hqq30 ?hyq30 hHeld ?restq30
                  case hiq30 => exact rfl
                  case hqq30 => exact fun _ _ _ h => h
                  case hyq30 =>
                    refine Or.inl ⟨by rfl, ?_⟩
                    intro w hSw
                    go_simp
                    (try with_reducible rfl)
                  try simp only [Act.put, List.getElem_toArray, List.getElem_cons_succ, List.getElem_cons_zero, List.setIfInBounds_toArray, List.set_cons_zero, List.set_cons_succ]
                  refine wpAnyH_take (i := 4) (oi := ?oiq31) (v := (.int .i64 l.to)) ?hiq31 (by kernel_rfl) (by kernel_rfl) (by kernel_rfl) ?hqq31 ?hyq31 hHeld ?restq31
                  case hiq31 => exact rfl
                  case hqq31 => exact fun _ _ _ h => h
                  case hyq31 =>
                    refine Or.inl ⟨by rfl, ?_⟩
                    intro w hSw
                    have z0 : w.cell? ⟨T7, 0, none⟩ = some (.int .i64 l.op) := hp_cell hSw.2 (by rfl)
                    have z1 : w.cell? ⟨T7, 1, none⟩ = some (.int .i64 l.to) := hp_cell hSw.2 (by rfl)
                    have z2 : w.cell? ⟨T7, 2, none⟩ = some (.int .i64 l.a) := hp_cell hSw.2 (by rfl)
                    have z3 : w.cell? ⟨T7, 3, none⟩ = some (.int .i64 l.b) := hp_cell hSw.2 (by rfl)
                    go_simp
                    (try with_reducible rfl)
                  try simp only [Act.put, List.getElem_toArray, List.getElem_cons_succ, List.getElem_cons_zero, List.setIfInBounds_toArray, List.set_cons_zero, List.set_cons_succ]
                  refine wpAnyH_take (i := 5) (oi := ?oiq32) (v := (.int .i64 ((k : Int) + 1 + l.to))) ?hiq32 (by kernel_rfl) (by kernel_rfl) (by kernel_rfl) ?hqq32 ?hyq32 hHeld ?restq32
                  case hiq32 => exact rfl
                  case hqq32 => exact fun _ _ _ h => h
                  case hyq32 =>
                    refine Or.inl ⟨by rfl, ?_⟩
                    intro w hSw
                    go_simp
                    (try rw [HWT.out])
                    (try rfl)
                    (try with_reducible rfl)
                  try simp only [Act.put, List.getElem_toArray, List.getElem_cons_succ, List.getElem_cons_zero, List.setIfInBounds_toArray, List.set_cons_zero, List.set_cons_succ]
                  refine wpAnyH_take (i := 6) (oi := ?oiq33) (v := ?vq33) ?hiq33 (by kernel_rfl) (by kernel_rfl) (by kernel_rfl) ?hqq33 ?hyq33 hHeld ?restq33
                  case hiq33 => exact rfl
                  case hqq33 => exact fun _ _ _ h => h
                  case hyq33 =>
                    refine Or.inl ⟨by rfl, ?_⟩
                    intro w hSw
                    go_simp
                    (try with_reducible rfl)
                  try simp only [Act.put, List.getElem_toArray, List.getElem_cons_succ, List.getElem_cons_zero, List.setIfInBounds_toArray, List.set_cons_zero, List.set_cons_succ]
                  refine wpAnyH_take (i := 7) (oi := ?oiq34) (v := (.int .i64 (ps.length : Int))) ?hiq34 (by kernel_rfl) (by kernel_rfl) (by kernel_rfl) ?hqq34 ?hyq34 hHeld ?restq34
                  case hiq34 => exact rfl
                  case hqq34 => exact fun _ _ _ h => h
                  case hyq34 =>
                    refine Or.inl ⟨by rfl, ?_⟩
                    intro w hSw
                    go_simp
                    (try with_reducible rfl)
                  try simp only [Act.put, List.getElem_toArray, List.getElem_cons_succ, List.getElem_cons_zero, List.setIfInBounds_toArray, List.set_cons_zero, List.set_cons_succ]
                  refine wpAnyH_take (i := 8) (oi := ?oiq35) (v := (.int .i64 ((k : Int) + 1 + l.to))) ?hiq35 (by kernel_rfl) (by kernel_rfl) (by kernel_rfl) ?hqq35 ?hyq35 hHeld ?restq35
                  case hiq35 => exact rfl
                  case hqq35 => exact fun _ _ _ h => h
                  case hyq35 =>
                    refine Or.inl ⟨by rfl, ?_⟩
                    intro w hSw
                    go_simp
                    (try rw [if_pos (by omega)])
                    (try rw [if_neg (by omega)])
                    (try simp)
                    (try rfl)
                    (try omega)
                    (try with_reducible rfl)
                  try simp only [Act.put, List.getElem_toArray, List.getElem_cons_succ, List.getElem_cons_zero, List.setIfInBounds_toArray, List.set_cons_zero, List.set_cons_succ]
                  refine wpAnyH_take (i := 9) (oi := ?oiq36) (v := (.pointer (some ⟨G, (k + 1 + t) * 9, none⟩))) ?hiq36 (by kernel_rfl) (by kernel_rfl) (by kernel_rfl) ?hqq36 ?hyq36 hHeld ?restq36
                  case hiq36 => exact rfl
                  case hqq36 => exact fun _ _ _ h => h
                  case hyq36 =>
                    refine Or.inl ⟨by rfl, ?_⟩
                    intro w hSw
                    go_simp
                    (try rw [if_pos (by omega)])
                    (try simp [HTT.out])
                    (try rfl)
                    (try omega)
                    (try with_reducible rfl)
                  try simp only [Act.put, List.getElem_toArray, List.getElem_cons_succ, List.getElem_cons_zero, List.setIfInBounds_toArray, List.set_cons_zero, List.set_cons_succ]
                  refine wpAnyH_take (i := 10) (oi := ?oiq37) (v := ?vq37) ?hiq37 (by kernel_rfl) (by kernel_rfl) (by kernel_rfl) ?hqq37 ?hyq37 hHeld ?restq37
                  case hiq37 => exact rfl
                  case hqq37 => exact fun _ _ _ h => h
                  case hyq37 =>
                    refine Or.inl ⟨by rfl, ?_⟩
                    intro w hSw
                    go_simp
                    (try with_reducible rfl)
                  try simp only [Act.put, List.getElem_toArray, List.getElem_cons_succ, List.getElem_cons_zero, List.setIfInBounds_toArray, List.set_cons_zero, List.set_cons_succ]
                  refine wpAnyH_take (i := 11) (oi := ?oiq38) (v := (.agg #[.int .i64 y0.lo, .int .i64 y0.hi, .int .i64 y1.lo, .int .i64 y1.hi, .int .i64 y2.lo, .int .i64 y2.hi, .int .i64 y3.lo, .int .i64 y3.hi])) ?hiq38 (by kernel_rfl) (by kernel_rfl) (by kernel_rfl) ?hqq38 ?hyq38 hHeld ?restq38
                  case hiq38 => exact rfl
                  case hqq38 => exact fun _ _ _ h => h
                  case hyq38 =>
                    refine Or.inl ⟨by rfl, ?_⟩
                    intro w hSw
                    have z0 : w.cell? ⟨T8, 1, none⟩ = some (.int .i64 y0.lo) := hp_cell hSw.1 (by rfl)
                    have z1 : w.cell? ⟨T8, 2, none⟩ = some (.int .i64 y0.hi) := hp_cell hSw.1 (by rfl)
                    have z2 : w.cell? ⟨T8, 3, none⟩ = some (.int .i64 y1.lo) := hp_cell hSw.1 (by rfl)
                    have z3 : w.cell? ⟨T8, 4, none⟩ = some (.int .i64 y1.hi) := hp_cell hSw.1 (by rfl)
                    have z4 : w.cell? ⟨T8, 5, none⟩ = some (.int .i64 y2.lo) := hp_cell hSw.1 (by rfl)
                    have z5 : w.cell? ⟨T8, 6, none⟩ = some (.int .i64 y2.hi) := hp_cell hSw.1 (by rfl)
                    have z6 : w.cell? ⟨T8, 7, none⟩ = some (.int .i64 y3.lo) := hp_cell hSw.1 (by rfl)
                    have z7 : w.cell? ⟨T8, 8, none⟩ = some (.int .i64 y3.hi) := hp_cell hSw.1 (by rfl)
                    go_simp
                    (try with_reducible rfl)
                  try simp only [Act.put, List.getElem_toArray, List.getElem_cons_succ, List.getElem_cons_zero, List.setIfInBounds_toArray, List.set_cons_zero, List.set_cons_succ]
                  refine wpAnyH_ready (rs := [12]) (by kernel_rfl) (by simp) ?_
                  refine AllReadyH.cons (o := ?or39_12) ?hr39_12 ?kr39_12 AllReadyH.nil
                  case hr39_12 => exact rfl
                  case kr39_12 =>
                    intro K hK
                    go_simp
                    refine (HRC2.out (k + 1 + t) HJJ.out _ (hp_drew HGx.out)).mono ?_
                    rintro e wb ⟨rfl, hgb, hob⟩
                    have HGG := Lib.hid hgb
                    have HG8 := Off.blk hob (hp_drew H8.out) HNE.out.1
                    have HG7 := Off.blk hob (hp_drew H7.out) HNE.out.2
                    have HGO := Lib.hid (HBA.out.drew.trans (hob.below HGW.out HBA.out.size))
                    refine hK.out _ _ ⟨HG8, HG7⟩ (fun hHeld => ?_)
                    clear hK K
                    try simp only [Act.put, List.getElem_toArray, List.getElem_cons_succ, List.getElem_cons_zero, List.setIfInBounds_toArray, List.set_cons_zero, List.set_cons_succ]
                    refine wpAnyH_done (by kernel_rfl) ?_ _
                    clear hHeld
                    go_wp2_with fail
                    go_roundw
                    case rel => exact ⟨k + 1, by omega, by go_num, by rw [HST.out]; exact HGG.out, HGO.out⟩
                    case measure => simp [intOf]; omega
              
                · have HJJ := Lib.hid (Nat.le_refl ps.length)
                  have hm1 : (ps.length : Int) ≤ (k : Int) + 1 + l.to := by omega
                  have hm2 : ¬ (k : Int) + 1 + l.to ≤ (ps.length : Int) := by omega
                  have hm3 : (ps.length : Int) < (k : Int) + 1 + l.to := by omega
                  have HST := Lib.hid (show SA (k + 1) = recv (recv (SA k) (k + 1) (afB l [y0, y1, y2, y3])) ps.length [y0, y1, y2, y3] by rw [HST0.out, hs, if_pos rfl, HG1.out, show min (k + 1 + l.to.toNat) ps.length = ps.length by omega]; (try rfl))
                  clear hs ht
                  go_upto_region 11 with fail
                  refine wp_region_held_drew (S := (fun W => W.heap[T8]? = some (.cells #[.bool true, .int .i64 y0.lo, .int .i64 y0.hi, .int .i64 y1.lo, .int .i64 y1.hi, .int .i64 y2.lo, .int .i64 y2.hi, .int .i64 y3.lo, .int .i64 y3.hi] 78 (0, 0)) ∧ W.heap[T7]? = some (.cells #[.int .i64 l.op, .int .i64 l.to, .int .i64 l.a, .int .i64 l.b] 50 (0, 0)))) (by kernel_rfl) ?_ (fun hHeld => ?_)
                  · exact ⟨hp_drew H8.out, hp_drew H7.out⟩
                  refine wpAnyH_take (i := 0) (oi := ?oiq40) (v := ?vq40) ?hiq40 (by kernel_rfl) (by kernel_rfl) (by kernel_rfl) ?hqq40 ?hyq40 hHeld ?restq40
                  case hiq40 => exact rfl
                  case hqq40 => exact fun _ _ _ h => h
                  case hyq40 =>
                    refine Or.inl ⟨by rfl, ?_⟩
                    intro w hSw
                    go_simp
                    (try with_reducible rfl)
                  try simp only [Act.put, List.getElem_toArray, List.getElem_cons_succ, List.getElem_cons_zero, List.setIfInBounds_toArray, List.set_cons_zero, List.set_cons_succ]
                  refine wpAnyH_take (i := 1) (oi := ?oiq41) (v := ?vq41) ?hiq41 (by kernel_rfl) (by kernel_rfl) (by kernel_rfl) ?hqq41 ?hyq41 hHeld ?restq41
                  case hiq41 => exact rfl
                  case hqq41 => exact fun _ _ _ h => h
                  case hyq41 =>
                    refine Or.inl ⟨by rfl, ?_⟩
                    intro w hSw
                    go_simp
                    (try with_reducible rfl)
                  try simp only [Act.put, List.getElem_toArray, List.getElem_cons_succ, List.getElem_cons_zero, List.setIfInBounds_toArray, List.set_cons_zero, List.set_cons_succ]
                  refine wpAnyH_take (i := 2) (oi := ?oiq42) (v := (.int .i64 ((k : Int) + 1))) ?hiq42 (by kernel_rfl) (by kernel_rfl) (by kernel_rfl) ?hqq42 ?hyq42 hHeld ?restq42
                  case hiq42 => exact rfl
                  case hqq42 => exact fun _ _ _ h => h
                  case hyq42 =>
                    refine Or.inl ⟨by rfl, ?_⟩
                    intro w hSw
                    go_simp
                    (try rw [HWK.out])
                    (try rfl)
                    (try with_reducible rfl)
                  try simp only [Act.put, List.getElem_toArray, List.getElem_cons_succ, List.getElem_cons_zero, List.setIfInBounds_toArray, List.set_cons_zero, List.set_cons_succ]
                  refine wpAnyH_take (i := 3) (oi := ?oiq43) (v := ?vq43) ?hiq43 (by kernel_rfl) (by kernel_rfl) (by kernel_rfl) ?hqq43 ?hyq43 hHeld ?restq43
                  case hiq43 => exact rfl
                  case hqq43 => exact fun _ _ _ h => h
                  case hyq43 =>
                    refine Or.inl ⟨by rfl, ?_⟩
                    intro w hSw
                    go_simp
                    (try with_reducible rfl)
                  try simp only [Act.put, List.getElem_toArray, List.getElem_cons_succ, List.getElem_cons_zero, List.setIfInBounds_toArray, List.set_cons_zero, List.set_cons_succ]
                  refine wpAnyH_take (i := 4) (oi := ?oiq44) (v := (.int .i64 l.to)) ?hiq44 (by kernel_rfl) (by kernel_rfl) (by kernel_rfl) ?hqq44 ?hyq44 hHeld ?restq44
                  case hiq44 => exact rfl
                  case hqq44 => exact fun _ _ _ h => h
                  case hyq44 =>
                    refine Or.inl ⟨by rfl, ?_⟩
                    intro w hSw
                    have z0 : w.cell? ⟨T7, 0, none⟩ = some (.int .i64 l.op) := hp_cell hSw.2 (by rfl)
                    have z1 : w.cell? ⟨T7, 1, none⟩ = some (.int .i64 l.to) := hp_cell hSw.2 (by rfl)
                    have z2 : w.cell? ⟨T7, 2, none⟩ = some (.int .i64 l.a) := hp_cell hSw.2 (by rfl)
                    have z3 : w.cell? ⟨T7, 3, none⟩ = some (.int .i64 l.b) := hp_cell hSw.2 (by rfl)
                    go_simp
                    (try with_reducible rfl)
                  try simp only [Act.put, List.getElem_toArray, List.getElem_cons_succ, List.getElem_cons_zero, List.setIfInBounds_toArray, List.set_cons_zero, List.set_cons_succ]
                  refine wpAnyH_take (i := 5) (oi := ?oiq45) (v := (.int .i64 ((k : Int) + 1 + l.to))) ?hiq45 (by kernel_rfl) (by kernel_rfl) (by kernel_rfl) ?hqq45 ?hyq45 hHeld ?restq45
                  case hiq45 => exact rfl
                  case hqq45 => exact fun _ _ _ h => h
                  case hyq45 =>
                    refine Or.inl ⟨by rfl, ?_⟩
                    intro w hSw
                    go_simp
                    (try rw [HWT.out])
                    (try rfl)
                    (try with_reducible rfl)
                  try simp only [Act.put, List.getElem_toArray, List.getElem_cons_succ, List.getElem_cons_zero, List.setIfInBounds_toArray, List.set_cons_zero, List.set_cons_succ]
                  refine wpAnyH_take (i := 6) (oi := ?oiq46) (v := ?vq46) ?hiq46 (by kernel_rfl) (by kernel_rfl) (by kernel_rfl) ?hqq46 ?hyq46 hHeld ?restq46
                  case hiq46 => exact rfl
                  case hqq46 => exact fun _ _ _ h => h
                  case hyq46 =>
                    refine Or.inl ⟨by rfl, ?_⟩
                    intro w hSw
                    go_simp
                    (try with_reducible rfl)
                  try simp only [Act.put, List.getElem_toArray, List.getElem_cons_succ, List.getElem_cons_zero, List.setIfInBounds_toArray, List.set_cons_zero, List.set_cons_succ]
                  refine wpAnyH_take (i := 7) (oi := ?oiq47) (v := (.int .i64 (ps.length : Int))) ?hiq47 (by kernel_rfl) (by kernel_rfl) (by kernel_rfl) ?hqq47 ?hyq47 hHeld ?restq47
                  case hiq47 => exact rfl
                  case hqq47 => exact fun _ _ _ h => h
                  case hyq47 =>
                    refine Or.inl ⟨by rfl, ?_⟩
                    intro w hSw
                    go_simp
                    (try with_reducible rfl)
                  try simp only [Act.put, List.getElem_toArray, List.getElem_cons_succ, List.getElem_cons_zero, List.setIfInBounds_toArray, List.set_cons_zero, List.set_cons_succ]
                  refine wpAnyH_take (i := 8) (oi := ?oiq48) (v := (.int .i64 (ps.length : Int))) ?hiq48 (by kernel_rfl) (by kernel_rfl) (by kernel_rfl) ?hqq48 ?hyq48 hHeld ?restq48
                  case hiq48 => exact rfl
                  case hqq48 => exact fun _ _ _ h => h
                  case hyq48 =>
                    refine Or.inl ⟨by rfl, ?_⟩
                    intro w hSw
                    go_simp
                    (try rw [if_pos (by omega)])
                    (try rw [if_neg (by omega)])
                    (try simp)
                    (try rfl)
                    (try omega)
                    (try with_reducible rfl)
                  try simp only [Act.put, List.getElem_toArray, List.getElem_cons_succ, List.getElem_cons_zero, List.setIfInBounds_toArray, List.set_cons_zero, List.set_cons_succ]
                  refine wpAnyH_take (i := 9) (oi := ?oiq49) (v := (.pointer (some ⟨G, ps.length * 9, none⟩))) ?hiq49 (by kernel_rfl) (by kernel_rfl) (by kernel_rfl) ?hqq49 ?hyq49 hHeld ?restq49
                  case hiq49 => exact rfl
                  case hqq49 => exact fun _ _ _ h => h
                  case hyq49 =>
                    refine Or.inl ⟨by rfl, ?_⟩
                    intro w hSw
                    go_simp
                    (try rw [if_pos (by omega)])
                    (try simp [HTT.out])
                    (try rfl)
                    (try omega)
                    (try with_reducible rfl)
                  try simp only [Act.put, List.getElem_toArray, List.getElem_cons_succ, List.getElem_cons_zero, List.setIfInBounds_toArray, List.set_cons_zero, List.set_cons_succ]
                  refine wpAnyH_take (i := 10) (oi := ?oiq50) (v := ?vq50) ?hiq50 (by kernel_rfl) (by kernel_rfl) (by kernel_rfl) ?hqq50 ?hyq50 hHeld ?restq50
                  case hiq50 => exact rfl
                  case hqq50 => exact fun _ _ _ h => h
                  case hyq50 =>
                    refine Or.inl ⟨by rfl, ?_⟩
                    intro w hSw
                    go_simp
                    (try with_reducible rfl)
                  try simp only [Act.put, List.getElem_toArray, List.getElem_cons_succ, List.getElem_cons_zero, List.setIfInBounds_toArray, List.set_cons_zero, List.set_cons_succ]
                  refine wpAnyH_take (i := 11) (oi := ?oiq51) (v := (.agg #[.int .i64 y0.lo, .int .i64 y0.hi, .int .i64 y1.lo, .int .i64 y1.hi, .int .i64 y2.lo, .int .i64 y2.hi, .int .i64 y3.lo, .int .i64 y3.hi])) ?hiq51 (by kernel_rfl) (by kernel_rfl) (by kernel_rfl) ?hqq51 ?hyq51 hHeld ?restq51
                  case hiq51 => exact rfl
                  case hqq51 => exact fun _ _ _ h => h
                  case hyq51 =>
                    refine Or.inl ⟨by rfl, ?_⟩
                    intro w hSw
                    have z0 : w.cell? ⟨T8, 1, none⟩ = some (.int .i64 y0.lo) := hp_cell hSw.1 (by rfl)
                    have z1 : w.cell? ⟨T8, 2, none⟩ = some (.int .i64 y0.hi) := hp_cell hSw.1 (by rfl)
                    have z2 : w.cell? ⟨T8, 3, none⟩ = some (.int .i64 y1.lo) := hp_cell hSw.1 (by rfl)
                    have z3 : w.cell? ⟨T8, 4, none⟩ = some (.int .i64 y1.hi) := hp_cell hSw.1 (by rfl)
                    have z4 : w.cell? ⟨T8, 5, none⟩ = some (.int .i64 y2.lo) := hp_cell hSw.1 (by rfl)
                    have z5 : w.cell? ⟨T8, 6, none⟩ = some (.int .i64 y2.hi) := hp_cell hSw.1 (by rfl)
                    have z6 : w.cell? ⟨T8, 7, none⟩ = some (.int .i64 y3.lo) := hp_cell hSw.1 (by rfl)
                    have z7 : w.cell? ⟨T8, 8, none⟩ = some (.int .i64 y3.hi) := hp_cell hSw.1 (by rfl)
                    go_simp
                    (try with_reducible rfl)
                  try simp only [Act.put, List.getElem_toArray, List.getElem_cons_succ, List.getElem_cons_zero, List.setIfInBounds_toArray, List.set_cons_zero, List.set_cons_succ]
                  refine wpAnyH_ready (rs := [12]) (by kernel_rfl) (by simp) ?_
                  refine AllReadyH.cons (o := ?or52_12) ?hr52_12 ?kr52_12 AllReadyH.nil
                  case hr52_12 => exact rfl
                  case kr52_12 =>
                    intro K hK
                    go_simp
                    refine (HRC2.out ps.length HJJ.out _ (hp_drew HGx.out)).mono ?_
                    rintro e wb ⟨rfl, hgb, hob⟩
                    have HGG := Lib.hid hgb
                    have HG8 := Off.blk hob (hp_drew H8.out) HNE.out.1
                    have HG7 := Off.blk hob (hp_drew H7.out) HNE.out.2
                    have HGO := Lib.hid (HBA.out.drew.trans (hob.below HGW.out HBA.out.size))
                    refine hK.out _ _ ⟨HG8, HG7⟩ (fun hHeld => ?_)
                    clear hK K
                    try simp only [Act.put, List.getElem_toArray, List.getElem_cons_succ, List.getElem_cons_zero, List.setIfInBounds_toArray, List.set_cons_zero, List.set_cons_succ]
                    refine wpAnyH_done (by kernel_rfl) ?_ _
                    clear hHeld
                    go_wp2_with fail
                    go_roundw
                    case rel => exact ⟨k + 1, by omega, by go_num, by rw [HST.out]; exact HGG.out, HGO.out⟩
                    case measure => simp [intOf]; omega
    · have : k = ps.length := by omega
      subst this
      go_wp2_with fail
      go_ret
      exact ⟨G, rfl, hgx, HGW.out, hB⟩

end Go.Proofs.Ytmpgaccpdglhkaa
