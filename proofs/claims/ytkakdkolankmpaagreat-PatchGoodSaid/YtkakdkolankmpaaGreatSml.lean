/- Several texts in one. -/
import Derived.Test.YtkakdkolankmpaaGreatPtD
import Derived.Laws.AppendOwnNone
import Derived.Test.YtkakdkolankmpaaGreatFxW
import Derived.Test.YtkakdkolankmpaaGreatMsk
/- All parts of a patch, the document's side. -/
set_option linter.unusedVariables false
set_option linter.unusedSimpArgs false
namespace Go.Proofs.YtkakdkolankmpaaGreat
open Go.RowKit Tinker

theorem wp_append_none {w : World} {o : Oper} {a : Act} {K : Act → World → Prop} {Q : Exit → Act → World → Prop} (s x : Operand) (t : TypeId)
    (ho : o.op = .call { callee := .builtin .append, args := #[s, x], argTypes := #[t, t] })
    (base : Nat) (e : TypeId) (i : TypeInfo) (size : Nat) (ht : Tryz.prog.underlying t = some (.slice e)) (hi : Tryz.prog.info? e = some i)
    (v : Value) (n : Nat) (xs : List Value) (hs : a.eval s = v) (hown : w.ownsRow base e size v n xs) (hx : a.eval x = .slice none 0 0)
    (h : K (a.put o.dst v) w) : o.wp Tryz.prog a w K Q := by
  have hrun := run_append_owned_none (P := Tryz.prog) (w := w) base t o.type e i size ht hi v n xs hown
  unfold Oper.wp
  simp [execOp, ho, resolve, invoke, builtin, hs, hx, hrun, Result.andThen]
  exact h
/-- A nil list has no room. -/
def NilZ (xs : List Value) : Prop := ∀ (k n c : Nat), xs[k]? = some (.slice none n c) → c = 0
theorem NilZ.push {xs : List Value} {g n c : Nat} (h : NilZ xs) : NilZ (xs ++ [.slice (some ⟨g, 0, none⟩) n c]) := fun k n' c' hk => by
  by_cases hl : k < xs.length
  · rw [List.getElem?_append_left hl] at hk
    exact h k n' c' hk
  · rw [List.getElem?_append_right (by omega)] at hk
    have h1 := List.mem_of_getElem? hk
    simp at h1
theorem cells_keepR {W W' : World} {b : Nat} {xs : List Value} (h : ∀ j u, xs[j]? = some u → W.cell? ((⟨b, 0, none⟩ : Addr).add j) = some u) (hb : b < W.heap.size) (hB : Below W.heap.size W W') : ∀ j u, xs[j]? = some u → W'.cell? ((⟨b, 0, none⟩ : Addr).add j) = some u := fun j u hu => by
  have e : (⟨b, 0, none⟩ : Addr).add j = ⟨b, j, none⟩ := by simp [Addr.add]; exact fun h => h.symm
  have h1 := h j u hu
  rw [e] at h1 ⊢
  exact (hB.cell (p := ⟨b, j, none⟩) hb).trans h1
theorem cells_growR {W W' : World} {b : Nat} {xs : List Value} {row : Option Nat} (h : ∀ j u, xs[j]? = some u → W.cell? ((⟨b, 0, none⟩ : Addr).add j) = some u) (hb : b < W.heap.size) (hg : W.grownBy W' row) (hne : some b ≠ row) : ∀ j u, xs[j]? = some u → W'.cell? ((⟨b, 0, none⟩ : Addr).add j) = some u := fun j u hu => by
  have e : (⟨b, 0, none⟩ : Addr).add j = ⟨b, j, none⟩ := by simp [Addr.add]; exact fun h => h.symm
  have h1 := h j u hu
  rw [e] at h1 ⊢
  exact (cell_heap (hg.block b hb hne) j).trans h1
/-- What a round reads: the cell of the part, the cells of the edit. -/
def RpS (g m b off k : Nat) (v : Value) (e : E) (W : World) : Prop := W.cell? ⟨g, m, none⟩ = some v ∧ W.cell? ⟨b, off + k * 5, none⟩ = some (.int .i64 e.at_) ∧ W.cell? ⟨b, off + k * 5 + 1, none⟩ = some (.int .i64 e.ln.op) ∧ W.cell? ⟨b, off + k * 5 + 2, none⟩ = some (.int .i64 e.ln.to) ∧ W.cell? ⟨b, off + k * 5 + 3, none⟩ = some (.int .i64 e.ln.a) ∧ W.cell? ⟨b, off + k * 5 + 4, none⟩ = some (.int .i64 e.ln.b)
theorem RpS.low {g m b off k : Nat} {v : Value} {e : E} {W W' : World} (h : RpS g m b off k v e W) (hg : g < W.heap.size) (hb : b < W.heap.size) (hB : Below W.heap.size W W') : RpS g m b off k v e W' := by
  obtain ⟨h0, h1, h2, h3, h4, h5⟩ := h
  exact ⟨(hB.cell (p := ⟨g, _, none⟩) hg).trans h0, (hB.cell (p := ⟨b, _, none⟩) hb).trans h1, (hB.cell (p := ⟨b, _, none⟩) hb).trans h2, (hB.cell (p := ⟨b, _, none⟩) hb).trans h3, (hB.cell (p := ⟨b, _, none⟩) hb).trans h4, (hB.cell (p := ⟨b, _, none⟩) hb).trans h5⟩
theorem RpS.grow {g m b off k : Nat} {v : Value} {e : E} {W W' : World} (h : RpS g m b off k v e W) (hg : W.grownBy W' (some g)) (hbg : b ≠ g) (hc : W'.cell? ⟨g, m, none⟩ = some v) : RpS g m b off k v e W' := by
  obtain ⟨h0, h1, h2, h3, h4, h5⟩ := h
  have hne : some b ≠ some g := fun h => hbg (by injection h)
  exact ⟨hc, hg.cell h1 hne, hg.cell h2 hne, hg.cell h3 hne, hg.cell h4 hne, hg.cell h5 hne⟩
theorem row_after {W W8 : World} {base g n m : Nat} {t : TypeId} {u y v8 : Value} {xs : List Value} (h : W.cell? ⟨g, m, none⟩ = some u) (hx : xs[m]? = some u) (hg : g < W.heap.size) (hown : W8.ownsRow base t 1 v8 (n + 1) (xs ++ [y])) (hat : v8.ownBlock = some g ∨ v8.ownBlock = some W.heap.size ∧ W.grownBy W8 none) : W8.cell? ⟨g, m, none⟩ = some u := by
  obtain ⟨a8, c8, rfl⟩ := own_slice hown
  obtain ⟨g8, rfl⟩ := own_form hown (Nat.succ_pos _)
  rcases hat with e | ⟨_, hgr⟩
  · have e1 : g8 = g := by simpa [Value.ownBlock] using e
    subst e1
    exact own_cell hown (by rw [List.getElem?_append_left (List.getElem?_eq_some_iff.1 hx).1]; exact hx)
  · exact hgr.cell h (by simp)
/-- All parts in memory, as they are built. -/
def GivesRowsP (xs : List E) (w : World) (e : Ending) (w' : World) : Prop := ∃ a c, e = .returned (.slice a (ptL xs).length c) ∧ RowsEAt w' a (ptL xs) ∧ Below w.heap.size w w'

set_option maxRecDepth 100000 in
set_option maxHeartbeats 8000000 in
theorem rparts_any (a : Option Addr) (cap : Nat) (ys : List E) (w : World) (hx : EditsAt w a ys) (h4 : ys.length ≤ 4) :
    Calls Tryz.prog 103 #[.slice a ys.length cap] w (GivesRowsP ys w) := by
  obtain ⟨i0, hi, hz0, hz1, hz2⟩ := info_parts info_edit
  obtain ⟨j0, hj, jz0, jz1, jz2⟩ := info_parts info_edits
  go_enter Tryz.func103, Tryz.ntmps103
  go_wp2_with fail
  have hR0 : RowsIE w (.slice (some ⟨w.heap.size, 0, none⟩) 1 1) (ptL (ys.take 0)) [.slice none 0 0] (w.alloc (.cells #[.slice none 0 0] 23)) := by
    refine ⟨?_, ?_, (Below.refl _ _).alloc (Nat.le_refl _) _⟩
    · exact World.ownsRow_lit (base := w.heap.size) (e := 23) (size := 1) w #[.slice none 0 0] 1 (Nat.le_refl _) (by simp [maxLen]) (by simp)
    · intro k zs hk
      match k, hk with
      | 0, hk =>
        have e : zs = [] := by simpa [ptL] using hk.symm
        subst e
        exact ⟨none, 0, rfl, .inl rfl⟩
      | k + 1, hk => simp [ptL] at hk
  have HR0 := Lib.hid hR0
  have HZ0 := Lib.hid (show NilZ [.slice none 0 0] from fun k n c hk => by
    match k, hk with
    | 0, hk => simp at hk; exact hk.2.symm
    | k + 1, hk => simp at hk)
  clear hR0
  go_loopw [3, 4] (fun s3 s4 wr => ∃ (k : Nat) (xs : List Value), k ≤ ys.length ∧ s4 = .int .i64 k ∧ RowsIE w s3 (ptL (ys.take k)) xs wr ∧ NilZ xs) (fun _ s4 _ => ys.length - (intOf s4).toNat)
  case atStart => exact ⟨0, _, Nat.zero_le _, rfl, HR0.out, HZ0.out⟩
  case round =>
    clear HR0 HZ0
    obtain ⟨k, xs0, hk, rfl, hI, hZ⟩ := hrel
    obtain ⟨a0, cp0, rfl⟩ := own_slice hI.out
    obtain ⟨g0, rfl⟩ := own_form hI.out (pt_pos _)
    by_cases hlt : k < ys.length
    · obtain ⟨e, he⟩ := get_of_lt hlt
      have HEx := Lib.hid he
      have HST := Lib.hid (show ptL (ys.take (k + 1)) = ptL (ys.take k) ++ (ptL (ys.take k)).map (fun z => z ++ [e]) by rw [List.take_add_one, he]; exact ptL_snoc _ _)
      have HSM := Lib.hid (fun z (hz : z ∈ ptL (ys.take k)) => pt_small hz (by rw [List.length_take]; omega))
      have h16 := pt_len (xs := ys.take k) (by rw [List.length_take]; omega)
      have d0 : decide ((k : Int) < (ys.length : Int)) = true := by simp; omega
      have HI := Lib.hid hI
      have HZ := Lib.hid hZ
      clear he hI hZ
      generalize hpre : ptL (ys.take k) = pre at HST HSM h16 HI ⊢
      clear hpre
      go_wp2_with fail
      go_loopw [3, 6] (fun s3 s6 wx => ∃ (m : Nat) (xs1 : List Value), m ≤ pre.length ∧ s6 = .int .i64 m ∧ RowsIE w s3 (pre ++ (pre.take m).map (fun z => z ++ [e])) xs1 wx ∧ NilZ xs1) (fun _ s6 _ => pre.length - (intOf s6).toNat)
      case atStart => exact ⟨0, xs0, Nat.zero_le _, rfl, by rw [List.take_zero, List.map_nil, List.append_nil]; exact HI.out, HZ.out⟩
      case round =>
        clear HI HZ
        obtain ⟨m, xs1, hm, rfl, hP, hZ⟩ := hrel
        by_cases hlm : m < pre.length
        · obtain ⟨z, hz⟩ := get_of_lt hlm
          have hfl : (pre ++ (pre.take m).map (fun z => z ++ [e])).length ≤ 32 := by rw [List.length_append, List.length_map, List.length_take]; omega
          have hfp : m < (pre ++ (pre.take m).map (fun z => z ++ [e])).length := by rw [List.length_append]; omega
          have hzf : (pre ++ (pre.take m).map (fun z => z ++ [e]))[m]? = some z := by rw [List.getElem?_append_left hlm]; exact hz
          have hz4 := HSM.out z (mem_of_get hz)
          have HFS := Lib.hid (show pre ++ (pre.take (m + 1)).map (fun z => z ++ [e]) = (pre ++ (pre.take m).map (fun z => z ++ [e])) ++ [z ++ [e]] by rw [List.take_add_one, hz, List.map_append, List.append_assoc]; rfl)
          clear hz
          generalize pre ++ (pre.take m).map (fun z => z ++ [e]) = fs at HFS hP hfl hfp hzf
          obtain ⟨va, vc, rfl⟩ := own_slice hP.out
          obtain ⟨g, rfl⟩ := own_form hP.out (by omega)
          obtain ⟨a', cc', hxs, hO⟩ := hP.st m z hzf
          obtain ⟨b, off, e', rfl, hlw, he', c0, c1, c2, c3, c4⟩ := hx.at_ hlt
          have hlb := Nat.lt_of_lt_of_le hlw hP.below.size
          replace c0 := (hP.below.cell (p := ⟨b, _, none⟩) hlw).trans c0
          replace c1 := (hP.below.cell (p := ⟨b, _, none⟩) hlw).trans c1
          replace c2 := (hP.below.cell (p := ⟨b, _, none⟩) hlw).trans c2
          replace c3 := (hP.below.cell (p := ⟨b, _, none⟩) hlw).trans c3
          replace c4 := (hP.below.cell (p := ⟨b, _, none⟩) hlw).trans c4
          obtain rfl : e' = e := by have := HEx.out; rw [he'] at this; injection this
          have x0 := own_cell hP.out hxs
          have hgl := own_lt hP.out
          have HNZ := Lib.hid (fun h : a' = none => hZ m z.length cc' (by rw [← h]; exact hxs))
          have HED := Lib.hid (show EditsAt wr a' z from hO.at_)
          have HPw := Lib.hid hP
          have HZd := Lib.hid hZ
          have HXS := Lib.hid hxs
          have HBG := Lib.hid (show b ≠ g from fun h => by have h1 := own_base' hP.out; omega)
          have HB0 := Lib.hid (show Below wr.heap.size wr wr.drew from ⟨rfl, rfl, rfl, Nat.le_refl _, fun _ _ => rfl⟩)
          have HSb := Lib.hid (fun W h => RpS.low (show RpS g m b off k (.slice a' z.length cc') e' wr from ⟨x0, c0, c1, c2, c3, c4⟩) hgl hlb (W' := W) h)
          clear he' hP hO hZ hxs hzf x0 c0 c1 c2 c3 c4
          cases a' with
          | none =>
            have h1 := HNZ.out rfl
            have h2 := HED.out.none
            subst h1 h2
            clear HNZ
            go_upto_region 9 with fail
            refine wp_region_held_drew (S := RpS g m b off k (.slice none 0 0) e') (by kernel_rfl) ?_ (fun hHeld => ?_)
            · exact (HSb.out _ HB0.out)
            generalize wr.drew = Wd at *
            refine wpAnyH_take (i := 0) (oi := ?oiq28) (v := ?vq28) ?hiq28 (by kernel_rfl) (by decide +kernel) (by decide +kernel) ?hqq28 ?hyq28 hHeld ?restq28
            case hiq28 => exact rfl
            case hqq28 => exact fun _ _ _ h => h
            case hyq28 =>
              refine Or.inl ⟨by rfl, ?_⟩
              intro w hSw
              go_simp
              (try with_reducible rfl)
            try simp only [Act.put, List.getElem_toArray, List.getElem_cons_succ, List.getElem_cons_zero, List.setIfInBounds_toArray, List.set_cons_zero, List.set_cons_succ]
            refine wpAnyH_take (i := 2) (oi := ?oiq29) (v := ?vq29) ?hiq29 (by kernel_rfl) (by decide +kernel) (by decide +kernel) ?hqq29 ?hyq29 hHeld ?restq29
            case hiq29 => exact rfl
            case hqq29 => exact fun _ _ _ h => h
            case hyq29 =>
              refine Or.inl ⟨by rfl, ?_⟩
              intro w hSw
              go_simp
              (try with_reducible rfl)
            try simp only [Act.put, List.getElem_toArray, List.getElem_cons_succ, List.getElem_cons_zero, List.setIfInBounds_toArray, List.set_cons_zero, List.set_cons_succ]
            refine wpAnyH_take (i := 3) (oi := ?oiq30) (v := ?vq30) ?hiq30 (by kernel_rfl) (by decide +kernel) (by decide +kernel) ?hqq30 ?hyq30 hHeld ?restq30
            case hiq30 => exact rfl
            case hqq30 => exact fun _ _ _ h => h
            case hyq30 =>
              refine Or.inl ⟨by rfl, ?_⟩
              intro w hSw
              go_simp
              (try with_reducible rfl)
            try simp only [Act.put, List.getElem_toArray, List.getElem_cons_succ, List.getElem_cons_zero, List.setIfInBounds_toArray, List.set_cons_zero, List.set_cons_succ]
            refine wpAnyH_take (i := 4) (oi := ?oiq31) (v := ?vq31) ?hiq31 (by kernel_rfl) (by decide +kernel) (by decide +kernel) ?hqq31 ?hyq31 hHeld ?restq31
            case hiq31 => exact rfl
            case hqq31 => exact fun _ _ _ h => h
            case hyq31 =>
              refine Or.inl ⟨by rfl, ?_⟩
              intro w hSw
              go_simp
              (try with_reducible rfl)
            try simp only [Act.put, List.getElem_toArray, List.getElem_cons_succ, List.getElem_cons_zero, List.setIfInBounds_toArray, List.set_cons_zero, List.set_cons_succ]
            refine wpAnyH_take (i := 5) (oi := ?oiq32) (v := (.slice none 0 0)) ?hiq32 (by kernel_rfl) (by decide +kernel) (by decide +kernel) ?hqq32 ?hyq32 hHeld ?restq32
            case hiq32 => exact rfl
            case hqq32 => exact fun _ _ _ h => h
            case hyq32 =>
              refine Or.inl ⟨by rfl, ?_⟩
              intro w hSw
              have q0 := hSw.1
              go_simp
              (try with_reducible rfl)
            try simp only [Act.put, List.getElem_toArray, List.getElem_cons_succ, List.getElem_cons_zero, List.setIfInBounds_toArray, List.set_cons_zero, List.set_cons_succ]
            refine wpAnyH_take (i := 7) (oi := ?oiq33) (v := ?vq33) ?hiq33 (by kernel_rfl) (by decide +kernel) (by decide +kernel) ?hqq33 ?hyq33 hHeld ?restq33
            case hiq33 => exact rfl
            case hqq33 => exact fun _ _ _ h => h
            case hyq33 =>
              refine Or.inl ⟨by rfl, ?_⟩
              intro w hSw
              go_simp
              (try with_reducible rfl)
            try simp only [Act.put, List.getElem_toArray, List.getElem_cons_succ, List.getElem_cons_zero, List.setIfInBounds_toArray, List.set_cons_zero, List.set_cons_succ]
            refine wpAnyH_take (i := 8) (oi := ?oiq34) (v := ?vq34) ?hiq34 (by kernel_rfl) (by decide +kernel) (by decide +kernel) ?hqq34 ?hyq34 hHeld ?restq34
            case hiq34 => exact rfl
            case hqq34 => exact fun _ _ _ h => h
            case hyq34 =>
              refine Or.inl ⟨by rfl, ?_⟩
              intro w hSw
              go_simp
              (try with_reducible rfl)
            try simp only [Act.put, List.getElem_toArray, List.getElem_cons_succ, List.getElem_cons_zero, List.setIfInBounds_toArray, List.set_cons_zero, List.set_cons_succ]
            refine wpAnyH_take (i := 9) (oi := ?oiq35) (v := ?vq35) ?hiq35 (by kernel_rfl) (by decide +kernel) (by decide +kernel) ?hqq35 ?hyq35 hHeld ?restq35
            case hiq35 => exact rfl
            case hqq35 => exact fun _ _ _ h => h
            case hyq35 =>
              refine Or.inl ⟨by rfl, ?_⟩
              intro w hSw
              go_simp
              (try with_reducible rfl)
            try simp only [Act.put, List.getElem_toArray, List.getElem_cons_succ, List.getElem_cons_zero, List.setIfInBounds_toArray, List.set_cons_zero, List.set_cons_succ]
            refine wpAnyH_take (i := 10) (oi := ?oiq36) (v := (.agg #[.int .i64 e'.at_, .int .i64 e'.ln.op, .int .i64 e'.ln.to, .int .i64 e'.ln.a, .int .i64 e'.ln.b])) ?hiq36 (by kernel_rfl) (by decide +kernel) (by decide +kernel) ?hqq36 ?hyq36 hHeld ?restq36
            case hiq36 => exact rfl
            case hqq36 => exact fun _ _ _ h => h
            case hyq36 =>
              refine Or.inl ⟨by rfl, ?_⟩
              intro w hSw
              obtain ⟨_, q0, q1, q2, q3, q4⟩ := hSw
              go_simp
              (try with_reducible rfl)
            try simp only [Act.put, List.getElem_toArray, List.getElem_cons_succ, List.getElem_cons_zero, List.setIfInBounds_toArray, List.set_cons_zero, List.set_cons_succ]
            refine wpAnyH_ready (rs := [1, 11]) (by kernel_rfl) (by simp) ?_
            refine AllReadyH.cons (o := ?or54_1) ?hr54_1 ?kr54_1 (AllReadyH.cons (o := ?or54_11) ?hr54_11 ?kr54_11 AllReadyH.nil)
            case hr54_1 => exact rfl
            case hr54_11 => exact rfl
            case kr54_1 =>
              intro K hK
              go_simp
              have HB42 := Lib.hid (HB0.out.alloc HB0.out.size (.cells #[] 54))
              have hal := (Below.refl Wd.heap.size Wd).alloc (Nat.le_refl _) (.cells #[] 54)
              have HG43 := Lib.hid (show Wd.heap.size < (Wd.alloc (.cells #[] 54)).heap.size by simp)
              have HO44 := Lib.hid (show (Wd.alloc (.cells #[] 54)).ownsRow wr.heap.size 54 5 (.slice (some ⟨Wd.heap.size, 0, none⟩) 0 0) 0 [] from World.ownsRow_lit (base := wr.heap.size) (e := 54) (size := 5) Wd #[] 0 HB0.out.size (by simp [maxLen]) (by simp))
              clear hal
              refine hK.out _ _ (HSb.out _ HB42.out) (fun hHeld => ?_)
              clear hK K
              try simp only [Act.put, List.getElem_toArray, List.getElem_cons_succ, List.getElem_cons_zero, List.setIfInBounds_toArray, List.set_cons_zero, List.set_cons_succ]
              generalize (Wd.alloc (.cells #[] 54)) = W41 at *
              refine wpAnyH_ready (rs := [6, 11]) (by kernel_rfl) (by simp) ?_
              refine AllReadyH.cons (o := ?or47_6) ?hr47_6 ?kr47_6 (AllReadyH.cons (o := ?or47_11) ?hr47_11 ?kr47_11 AllReadyH.nil)
              case hr47_6 => exact rfl
              case hr47_11 => exact rfl
              case kr47_6 =>
                intro K hK
                rw [if_pos (by rfl)]
                refine wp_append_none (.tmp 22) (.tmp 26) 23 rfl wr.heap.size 54 i0 5 Tryz.underlying23 hi (.slice (some ⟨Wd.heap.size, 0, none⟩) 0 0) 0 [] rfl HO44.out (by rfl) ?_
                refine hK.out _ _ (HSb.out _ HB42.out) (fun hHeld => ?_)
                clear hK K
                try simp only [Act.put, List.getElem_toArray, List.getElem_cons_succ, List.getElem_cons_zero, List.setIfInBounds_toArray, List.set_cons_zero, List.set_cons_succ]
                refine wpAnyH_ready (rs := [11]) (by kernel_rfl) (by simp) ?_
                refine AllReadyH.cons (o := ?or41_11) ?hr41_11 ?kr41_11 AllReadyH.nil
                case hr41_11 => exact rfl
                case kr41_11 =>
                  intro K hK
                  go_simp
                  have HB50 := Lib.hid (HB42.out.alloc HB42.out.size (.cells #[.int .i64 e'.at_, .int .i64 e'.ln.op, .int .i64 e'.ln.to, .int .i64 e'.ln.a, .int .i64 e'.ln.b] 54))
                  have hal := (Below.refl W41.heap.size W41).alloc (Nat.le_refl _) (.cells #[.int .i64 e'.at_, .int .i64 e'.ln.op, .int .i64 e'.ln.to, .int .i64 e'.ln.a, .int .i64 e'.ln.b] 54)
                  have HG51 := Lib.hid (show W41.heap.size < (W41.alloc (.cells #[.int .i64 e'.at_, .int .i64 e'.ln.op, .int .i64 e'.ln.to, .int .i64 e'.ln.a, .int .i64 e'.ln.b] 54)).heap.size by simp)
                  have HC52 := Lib.hid (show ∀ j u, (ec [e'])[j]? = some u → (W41.alloc (.cells #[.int .i64 e'.at_, .int .i64 e'.ln.op, .int .i64 e'.ln.to, .int .i64 e'.ln.a, .int .i64 e'.ln.b] 54)).cell? ((⟨W41.heap.size, 0, none⟩ : Addr).add j) = some u from cells_newE W41 e')
                  have HV53 := Lib.hid (own_below HO44.out hal (Nat.le_refl _))
                  clear hal
                  refine hK.out _ _ (HSb.out _ HB50.out) (fun hHeld => ?_)
                  clear hK K
                  try simp only [Act.put, List.getElem_toArray, List.getElem_cons_succ, List.getElem_cons_zero, List.setIfInBounds_toArray, List.set_cons_zero, List.set_cons_succ]
                  generalize (W41.alloc (.cells #[.int .i64 e'.at_, .int .i64 e'.ln.op, .int .i64 e'.ln.to, .int .i64 e'.ln.a, .int .i64 e'.ln.b] 54)) = W49 at *
                  refine wpAnyH_ready (rs := [12]) (by kernel_rfl) (by simp) ?_
                  refine AllReadyH.cons (o := ?or40_12) ?hr40_12 ?kr40_12 AllReadyH.nil
                  case hr40_12 => exact rfl
                  case kr40_12 =>
                    intro K hK
                    rw [if_pos (by rfl)]
                    refine wp_append_new (.tmp 27) (.tmp 32) 23 rfl wr.heap.size 54 i0 (.agg #[.int .i64 0, .int .i64 0, .int .i64 0, .int .i64 0, .int .i64 0]) 5 40 Tryz.underlying23 hi hz0 hz1 hz2 rfl (by decide) (.slice (some ⟨Wd.heap.size, 0, none⟩) 0 0) 0 [] rfl HV53.out ⟨W41.heap.size, 0, none⟩ 1 1 (ec [e']) rfl rfl HC52.out (ec_one _) (by first | (simp [maxLen]; done) | (simp [maxLen]; omega)) (by omega) HB50.out.size ?_
                    intro v6 w6 hown6 hgrow6 _
                    have HJB6 := Lib.hid (HB50.out.grown hgrow6 HB50.out.size (by rintro k hk; exact (HV53.out.lt k hk).1))
                    obtain ⟨a5, c5, rfl⟩ := own_slice hown6
                    obtain ⟨g5, rfl⟩ := own_form hown6 (Nat.succ_pos _)
                    have HJ5 := Lib.hid hown6
                    clear hown6 hgrow6
                    refine hK.out _ _ (HSb.out _ HJB6.out) (fun hHeld => ?_)
                    clear hK K
                    try simp only [Act.put, List.getElem_toArray, List.getElem_cons_succ, List.getElem_cons_zero, List.setIfInBounds_toArray, List.set_cons_zero, List.set_cons_succ]
                    refine wpAnyH_ready (rs := [13]) (by kernel_rfl) (by simp) ?_
                    refine AllReadyH.cons (o := ?or39_13) ?hr39_13 ?kr39_13 AllReadyH.nil
                    case hr39_13 => exact rfl
                    case kr39_13 =>
                      intro K hK
                      go_simp
                      have HO7 := Lib.hid (own_below HJ5.out ((Below.refl w6.heap.size w6).alloc (Nat.le_refl _) (.cells #[.slice (some ⟨g5, 0, none⟩) (0 + 1) c5] 23)) (Nat.le_refl _))
                      have HC7 := Lib.hid (cell_one_new w6 (.slice (some ⟨g5, 0, none⟩) (0 + 1) c5) 23)
                      have HJ7 := Lib.hid (HJB6.out.alloc HJB6.out.size (.cells #[.slice (some ⟨g5, 0, none⟩) (0 + 1) c5] 23))
                      refine hK.out _ _ (HSb.out _ HJ7.out) (fun hHeld => ?_)
                      clear hK K
                      try simp only [Act.put, List.getElem_toArray, List.getElem_cons_succ, List.getElem_cons_zero, List.setIfInBounds_toArray, List.set_cons_zero, List.set_cons_succ]
                      refine wpAnyH_ready (rs := [14]) (by kernel_rfl) (by simp) ?_
                      refine AllReadyH.cons (o := ?or38_14) ?hr38_14 ?kr38_14 AllReadyH.nil
                      case hr38_14 => exact rfl
                      case kr38_14 =>
                        intro K hK
                        rw [if_pos (by rfl)]
                        have HPL := Lib.hid (HPw.out.low HJ7.out)
                        refine wp_append_new (.tmp 21) (.tmp 34) 112 rfl w.heap.size 23 j0 (.slice none 0 0) 1 24 Tryz.underlying112 hj jz0 jz1 jz2 rfl (by decide) (.slice (some ⟨g, 0, none⟩) fs.length vc) fs.length xs1 rfl HPL.out.out ⟨w6.heap.size, 0, none⟩ 1 1 [.slice (some ⟨g5, 0, none⟩) (0 + 1) c5] rfl rfl HC7.out (by intro u hu; simp at hu; subst hu; rfl) (by first | (simp [maxLen]; done) | (simp [maxLen]; omega)) (by omega) HPL.out.below.size ?_
                        intro v8 w8 hown8 hgrow8 hat8
                        have hOE : OwnE (w6.alloc (.cells #[.slice (some ⟨g5, 0, none⟩) (0 + 1) c5] 23)) w.heap.size (Value.slice (some ⟨g, 0, none⟩) fs.length vc).ownBlock (some ⟨g5, 0, none⟩) (([] : List E) ++ [e']) := by
                          have h1 := ownE_of (W := w6.alloc (.cells #[.slice (some ⟨g5, 0, none⟩) (0 + 1) c5] 23)) (a := some ⟨g5, 0, none⟩) (c := c5) (n := 0 + 1) (zs := ([] : List E) ++ [e']) (base := wr.heap.size) (e := 54) (by rw [ec_append]; exact HO7.out)
                          rcases h1 with h1 | ⟨b9, h2, h3, h4, h5⟩
                          · exact .inl h1
                          · exact .inr ⟨b9, h2, Nat.le_trans HPw.out.below.size h3, fun e1 => by have h9 : b9 < wr.heap.size := (HPw.out.out.lt b9 e1).2; omega, h5⟩
                        have hS8 := (HSb.out _ HJ7.out).grow hgrow8 HBG.out (row_after (HSb.out _ HJ7.out).1 HXS.out (Nat.lt_of_lt_of_le hgl HJ7.out.size) hown8 hat8)
                        have hPP := HPL.out.push (c := c5) (zs := ([] : List E) ++ [e']) hOE (by rw [List.length_append]; exact hown8) hgrow8 (hat8.imp id And.left)
                        rw [List.length_append] at hPP
                        have HPP := Lib.hid hPP
                        have HZZ := Lib.hid (HZd.out.push (g := g5) (n := 0 + 1) (c := c5))
                        have HS8 := Lib.hid hS8
                        clear hown8 hgrow8 hat8 hOE hPP hS8
                        refine hK.out _ _ HS8.out (fun hHeld => ?_)
                        clear hK K
                        try simp only [Act.put, List.getElem_toArray, List.getElem_cons_succ, List.getElem_cons_zero, List.setIfInBounds_toArray, List.set_cons_zero, List.set_cons_succ]
                        refine wpAnyH_ready (rs := [15]) (by kernel_rfl) (by simp) ?_
                        refine AllReadyH.cons (o := ?or37_15) ?hr37_15 ?kr37_15 AllReadyH.nil
                        case hr37_15 => exact rfl
                        case kr37_15 =>
                          intro K hK
                          go_simp
                          refine hK.out _ _ HS8.out (fun hHeld => ?_)
                          clear hK K
                          try simp only [Act.put, List.getElem_toArray, List.getElem_cons_succ, List.getElem_cons_zero, List.setIfInBounds_toArray, List.set_cons_zero, List.set_cons_succ]
                          refine wpAnyH_done (by kernel_rfl) ?_ _
                          clear hHeld
                          go_wp2_with fail
                          go_roundw
                          case rel => exact ⟨m + 1, _, by omega, by go_num, by rw [HFS.out]; exact HPP.out, HZZ.out⟩
                          case measure => simp [intOf]; omega
              case kr47_11 =>
                intro K hK
                go_simp
                have HB55 := Lib.hid (HB42.out.alloc HB42.out.size (.cells #[.int .i64 e'.at_, .int .i64 e'.ln.op, .int .i64 e'.ln.to, .int .i64 e'.ln.a, .int .i64 e'.ln.b] 54))
                have hal := (Below.refl W41.heap.size W41).alloc (Nat.le_refl _) (.cells #[.int .i64 e'.at_, .int .i64 e'.ln.op, .int .i64 e'.ln.to, .int .i64 e'.ln.a, .int .i64 e'.ln.b] 54)
                have HG56 := Lib.hid (show W41.heap.size < (W41.alloc (.cells #[.int .i64 e'.at_, .int .i64 e'.ln.op, .int .i64 e'.ln.to, .int .i64 e'.ln.a, .int .i64 e'.ln.b] 54)).heap.size by simp)
                have HC57 := Lib.hid (show ∀ j u, (ec [e'])[j]? = some u → (W41.alloc (.cells #[.int .i64 e'.at_, .int .i64 e'.ln.op, .int .i64 e'.ln.to, .int .i64 e'.ln.a, .int .i64 e'.ln.b] 54)).cell? ((⟨W41.heap.size, 0, none⟩ : Addr).add j) = some u from cells_newE W41 e')
                have HO58 := Lib.hid (own_below HO44.out hal (Nat.le_refl _))
                have HGap := Lib.hid (show Wd.heap.size < W41.heap.size from (HO44.out.lt _ rfl).2)
                clear hal
                refine hK.out _ _ (HSb.out _ HB55.out) (fun hHeld => ?_)
                clear hK K
                try simp only [Act.put, List.getElem_toArray, List.getElem_cons_succ, List.getElem_cons_zero, List.setIfInBounds_toArray, List.set_cons_zero, List.set_cons_succ]
                generalize (W41.alloc (.cells #[.int .i64 e'.at_, .int .i64 e'.ln.op, .int .i64 e'.ln.to, .int .i64 e'.ln.a, .int .i64 e'.ln.b] 54)) = W54 at *
                refine wpAnyH_ready (rs := [6]) (by kernel_rfl) (by simp) ?_
                refine AllReadyH.cons (o := ?or46_6) ?hr46_6 ?kr46_6 AllReadyH.nil
                case hr46_6 => exact rfl
                case kr46_6 =>
                  intro K hK
                  rw [if_pos (by rfl)]
                  refine wp_append_none (.tmp 22) (.tmp 26) 23 rfl wr.heap.size 54 i0 5 Tryz.underlying23 hi (.slice (some ⟨Wd.heap.size, 0, none⟩) 0 0) 0 [] rfl HO58.out (by rfl) ?_
                  refine hK.out _ _ (HSb.out _ HB55.out) (fun hHeld => ?_)
                  clear hK K
                  try simp only [Act.put, List.getElem_toArray, List.getElem_cons_succ, List.getElem_cons_zero, List.setIfInBounds_toArray, List.set_cons_zero, List.set_cons_succ]
                  refine wpAnyH_ready (rs := [12]) (by kernel_rfl) (by simp) ?_
                  refine AllReadyH.cons (o := ?or45_12) ?hr45_12 ?kr45_12 AllReadyH.nil
                  case hr45_12 => exact rfl
                  case kr45_12 =>
                    intro K hK
                    rw [if_pos (by rfl)]
                    refine wp_append_new (.tmp 27) (.tmp 32) 23 rfl wr.heap.size 54 i0 (.agg #[.int .i64 0, .int .i64 0, .int .i64 0, .int .i64 0, .int .i64 0]) 5 40 Tryz.underlying23 hi hz0 hz1 hz2 rfl (by decide) (.slice (some ⟨Wd.heap.size, 0, none⟩) 0 0) 0 [] rfl HO58.out ⟨W41.heap.size, 0, none⟩ 1 1 (ec [e']) rfl rfl HC57.out (ec_one _) (by first | (simp [maxLen]; done) | (simp [maxLen]; omega)) (by omega) HB55.out.size ?_
                    intro v6 w6 hown6 hgrow6 _
                    have HJB6 := Lib.hid (HB55.out.grown hgrow6 HB55.out.size (by rintro k hk; exact (HO58.out.lt k hk).1))
                    obtain ⟨a5, c5, rfl⟩ := own_slice hown6
                    obtain ⟨g5, rfl⟩ := own_form hown6 (Nat.succ_pos _)
                    have HJ5 := Lib.hid hown6
                    clear hown6 hgrow6
                    refine hK.out _ _ (HSb.out _ HJB6.out) (fun hHeld => ?_)
                    clear hK K
                    try simp only [Act.put, List.getElem_toArray, List.getElem_cons_succ, List.getElem_cons_zero, List.setIfInBounds_toArray, List.set_cons_zero, List.set_cons_succ]
                    refine wpAnyH_ready (rs := [13]) (by kernel_rfl) (by simp) ?_
                    refine AllReadyH.cons (o := ?or44_13) ?hr44_13 ?kr44_13 AllReadyH.nil
                    case hr44_13 => exact rfl
                    case kr44_13 =>
                      intro K hK
                      go_simp
                      have HO7 := Lib.hid (own_below HJ5.out ((Below.refl w6.heap.size w6).alloc (Nat.le_refl _) (.cells #[.slice (some ⟨g5, 0, none⟩) (0 + 1) c5] 23)) (Nat.le_refl _))
                      have HC7 := Lib.hid (cell_one_new w6 (.slice (some ⟨g5, 0, none⟩) (0 + 1) c5) 23)
                      have HJ7 := Lib.hid (HJB6.out.alloc HJB6.out.size (.cells #[.slice (some ⟨g5, 0, none⟩) (0 + 1) c5] 23))
                      refine hK.out _ _ (HSb.out _ HJ7.out) (fun hHeld => ?_)
                      clear hK K
                      try simp only [Act.put, List.getElem_toArray, List.getElem_cons_succ, List.getElem_cons_zero, List.setIfInBounds_toArray, List.set_cons_zero, List.set_cons_succ]
                      refine wpAnyH_ready (rs := [14]) (by kernel_rfl) (by simp) ?_
                      refine AllReadyH.cons (o := ?or43_14) ?hr43_14 ?kr43_14 AllReadyH.nil
                      case hr43_14 => exact rfl
                      case kr43_14 =>
                        intro K hK
                        rw [if_pos (by rfl)]
                        have HPL := Lib.hid (HPw.out.low HJ7.out)
                        refine wp_append_new (.tmp 21) (.tmp 34) 112 rfl w.heap.size 23 j0 (.slice none 0 0) 1 24 Tryz.underlying112 hj jz0 jz1 jz2 rfl (by decide) (.slice (some ⟨g, 0, none⟩) fs.length vc) fs.length xs1 rfl HPL.out.out ⟨w6.heap.size, 0, none⟩ 1 1 [.slice (some ⟨g5, 0, none⟩) (0 + 1) c5] rfl rfl HC7.out (by intro u hu; simp at hu; subst hu; rfl) (by first | (simp [maxLen]; done) | (simp [maxLen]; omega)) (by omega) HPL.out.below.size ?_
                        intro v8 w8 hown8 hgrow8 hat8
                        have hOE : OwnE (w6.alloc (.cells #[.slice (some ⟨g5, 0, none⟩) (0 + 1) c5] 23)) w.heap.size (Value.slice (some ⟨g, 0, none⟩) fs.length vc).ownBlock (some ⟨g5, 0, none⟩) (([] : List E) ++ [e']) := by
                          have h1 := ownE_of (W := w6.alloc (.cells #[.slice (some ⟨g5, 0, none⟩) (0 + 1) c5] 23)) (a := some ⟨g5, 0, none⟩) (c := c5) (n := 0 + 1) (zs := ([] : List E) ++ [e']) (base := wr.heap.size) (e := 54) (by rw [ec_append]; exact HO7.out)
                          rcases h1 with h1 | ⟨b9, h2, h3, h4, h5⟩
                          · exact .inl h1
                          · exact .inr ⟨b9, h2, Nat.le_trans HPw.out.below.size h3, fun e1 => by have h9 : b9 < wr.heap.size := (HPw.out.out.lt b9 e1).2; omega, h5⟩
                        have hS8 := (HSb.out _ HJ7.out).grow hgrow8 HBG.out (row_after (HSb.out _ HJ7.out).1 HXS.out (Nat.lt_of_lt_of_le hgl HJ7.out.size) hown8 hat8)
                        have hPP := HPL.out.push (c := c5) (zs := ([] : List E) ++ [e']) hOE (by rw [List.length_append]; exact hown8) hgrow8 (hat8.imp id And.left)
                        rw [List.length_append] at hPP
                        have HPP := Lib.hid hPP
                        have HZZ := Lib.hid (HZd.out.push (g := g5) (n := 0 + 1) (c := c5))
                        have HS8 := Lib.hid hS8
                        clear hown8 hgrow8 hat8 hOE hPP hS8
                        refine hK.out _ _ HS8.out (fun hHeld => ?_)
                        clear hK K
                        try simp only [Act.put, List.getElem_toArray, List.getElem_cons_succ, List.getElem_cons_zero, List.setIfInBounds_toArray, List.set_cons_zero, List.set_cons_succ]
                        refine wpAnyH_ready (rs := [15]) (by kernel_rfl) (by simp) ?_
                        refine AllReadyH.cons (o := ?or42_15) ?hr42_15 ?kr42_15 AllReadyH.nil
                        case hr42_15 => exact rfl
                        case kr42_15 =>
                          intro K hK
                          go_simp
                          refine hK.out _ _ HS8.out (fun hHeld => ?_)
                          clear hK K
                          try simp only [Act.put, List.getElem_toArray, List.getElem_cons_succ, List.getElem_cons_zero, List.setIfInBounds_toArray, List.set_cons_zero, List.set_cons_succ]
                          refine wpAnyH_done (by kernel_rfl) ?_ _
                          clear hHeld
                          go_wp2_with fail
                          go_roundw
                          case rel => exact ⟨m + 1, _, by omega, by go_num, by rw [HFS.out]; exact HPP.out, HZZ.out⟩
                          case measure => simp [intOf]; omega
            case kr54_11 =>
              intro K hK
              go_simp
              have HB64 := Lib.hid (HB0.out.alloc HB0.out.size (.cells #[.int .i64 e'.at_, .int .i64 e'.ln.op, .int .i64 e'.ln.to, .int .i64 e'.ln.a, .int .i64 e'.ln.b] 54))
              have hal := (Below.refl Wd.heap.size Wd).alloc (Nat.le_refl _) (.cells #[.int .i64 e'.at_, .int .i64 e'.ln.op, .int .i64 e'.ln.to, .int .i64 e'.ln.a, .int .i64 e'.ln.b] 54)
              have HG65 := Lib.hid (show Wd.heap.size < (Wd.alloc (.cells #[.int .i64 e'.at_, .int .i64 e'.ln.op, .int .i64 e'.ln.to, .int .i64 e'.ln.a, .int .i64 e'.ln.b] 54)).heap.size by simp)
              have HC66 := Lib.hid (show ∀ j u, (ec [e'])[j]? = some u → (Wd.alloc (.cells #[.int .i64 e'.at_, .int .i64 e'.ln.op, .int .i64 e'.ln.to, .int .i64 e'.ln.a, .int .i64 e'.ln.b] 54)).cell? ((⟨Wd.heap.size, 0, none⟩ : Addr).add j) = some u from cells_newE Wd e')
              clear hal
              refine hK.out _ _ (HSb.out _ HB64.out) (fun hHeld => ?_)
              clear hK K
              try simp only [Act.put, List.getElem_toArray, List.getElem_cons_succ, List.getElem_cons_zero, List.setIfInBounds_toArray, List.set_cons_zero, List.set_cons_succ]
              generalize (Wd.alloc (.cells #[.int .i64 e'.at_, .int .i64 e'.ln.op, .int .i64 e'.ln.to, .int .i64 e'.ln.a, .int .i64 e'.ln.b] 54)) = W63 at *
              refine wpAnyH_ready (rs := [1]) (by kernel_rfl) (by simp) ?_
              refine AllReadyH.cons (o := ?or53_1) ?hr53_1 ?kr53_1 AllReadyH.nil
              case hr53_1 => exact rfl
              case kr53_1 =>
                intro K hK
                go_simp
                have HB68 := Lib.hid (HB64.out.alloc HB64.out.size (.cells #[] 54))
                have hal := (Below.refl W63.heap.size W63).alloc (Nat.le_refl _) (.cells #[] 54)
                have HG69 := Lib.hid (show W63.heap.size < (W63.alloc (.cells #[] 54)).heap.size by simp)
                have HO70 := Lib.hid (show (W63.alloc (.cells #[] 54)).ownsRow wr.heap.size 54 5 (.slice (some ⟨W63.heap.size, 0, none⟩) 0 0) 0 [] from World.ownsRow_lit (base := wr.heap.size) (e := 54) (size := 5) W63 #[] 0 HB64.out.size (by simp [maxLen]) (by simp))
                have HC71 := Lib.hid (cells_keepR HC66.out HG65.out hal)
                have HL72 := Lib.hid (Nat.lt_of_lt_of_le HG65.out hal.size)
                have HGap := Lib.hid (show Wd.heap.size < W63.heap.size from HG65.out)
                clear hal
                refine hK.out _ _ (HSb.out _ HB68.out) (fun hHeld => ?_)
                clear hK K
                try simp only [Act.put, List.getElem_toArray, List.getElem_cons_succ, List.getElem_cons_zero, List.setIfInBounds_toArray, List.set_cons_zero, List.set_cons_succ]
                generalize (W63.alloc (.cells #[] 54)) = W67 at *
                refine wpAnyH_ready (rs := [6]) (by kernel_rfl) (by simp) ?_
                refine AllReadyH.cons (o := ?or52_6) ?hr52_6 ?kr52_6 AllReadyH.nil
                case hr52_6 => exact rfl
                case kr52_6 =>
                  intro K hK
                  rw [if_pos (by rfl)]
                  refine wp_append_none (.tmp 22) (.tmp 26) 23 rfl wr.heap.size 54 i0 5 Tryz.underlying23 hi (.slice (some ⟨W63.heap.size, 0, none⟩) 0 0) 0 [] rfl HO70.out (by rfl) ?_
                  refine hK.out _ _ (HSb.out _ HB68.out) (fun hHeld => ?_)
                  clear hK K
                  try simp only [Act.put, List.getElem_toArray, List.getElem_cons_succ, List.getElem_cons_zero, List.setIfInBounds_toArray, List.set_cons_zero, List.set_cons_succ]
                  refine wpAnyH_ready (rs := [12]) (by kernel_rfl) (by simp) ?_
                  refine AllReadyH.cons (o := ?or51_12) ?hr51_12 ?kr51_12 AllReadyH.nil
                  case hr51_12 => exact rfl
                  case kr51_12 =>
                    intro K hK
                    rw [if_pos (by rfl)]
                    refine wp_append_new (.tmp 27) (.tmp 32) 23 rfl wr.heap.size 54 i0 (.agg #[.int .i64 0, .int .i64 0, .int .i64 0, .int .i64 0, .int .i64 0]) 5 40 Tryz.underlying23 hi hz0 hz1 hz2 rfl (by decide) (.slice (some ⟨W63.heap.size, 0, none⟩) 0 0) 0 [] rfl HO70.out ⟨Wd.heap.size, 0, none⟩ 1 1 (ec [e']) rfl rfl HC71.out (ec_one _) (by first | (simp [maxLen]; done) | (simp [maxLen]; omega)) (by omega) HB68.out.size ?_
                    intro v6 w6 hown6 hgrow6 _
                    have HJB6 := Lib.hid (HB68.out.grown hgrow6 HB68.out.size (by rintro k hk; exact (HO70.out.lt k hk).1))
                    obtain ⟨a5, c5, rfl⟩ := own_slice hown6
                    obtain ⟨g5, rfl⟩ := own_form hown6 (Nat.succ_pos _)
                    have HJ5 := Lib.hid hown6
                    clear hown6 hgrow6
                    refine hK.out _ _ (HSb.out _ HJB6.out) (fun hHeld => ?_)
                    clear hK K
                    try simp only [Act.put, List.getElem_toArray, List.getElem_cons_succ, List.getElem_cons_zero, List.setIfInBounds_toArray, List.set_cons_zero, List.set_cons_succ]
                    refine wpAnyH_ready (rs := [13]) (by kernel_rfl) (by simp) ?_
                    refine AllReadyH.cons (o := ?or50_13) ?hr50_13 ?kr50_13 AllReadyH.nil
                    case hr50_13 => exact rfl
                    case kr50_13 =>
                      intro K hK
                      go_simp
                      have HO7 := Lib.hid (own_below HJ5.out ((Below.refl w6.heap.size w6).alloc (Nat.le_refl _) (.cells #[.slice (some ⟨g5, 0, none⟩) (0 + 1) c5] 23)) (Nat.le_refl _))
                      have HC7 := Lib.hid (cell_one_new w6 (.slice (some ⟨g5, 0, none⟩) (0 + 1) c5) 23)
                      have HJ7 := Lib.hid (HJB6.out.alloc HJB6.out.size (.cells #[.slice (some ⟨g5, 0, none⟩) (0 + 1) c5] 23))
                      refine hK.out _ _ (HSb.out _ HJ7.out) (fun hHeld => ?_)
                      clear hK K
                      try simp only [Act.put, List.getElem_toArray, List.getElem_cons_succ, List.getElem_cons_zero, List.setIfInBounds_toArray, List.set_cons_zero, List.set_cons_succ]
                      refine wpAnyH_ready (rs := [14]) (by kernel_rfl) (by simp) ?_
                      refine AllReadyH.cons (o := ?or49_14) ?hr49_14 ?kr49_14 AllReadyH.nil
                      case hr49_14 => exact rfl
                      case kr49_14 =>
                        intro K hK
                        rw [if_pos (by rfl)]
                        have HPL := Lib.hid (HPw.out.low HJ7.out)
                        refine wp_append_new (.tmp 21) (.tmp 34) 112 rfl w.heap.size 23 j0 (.slice none 0 0) 1 24 Tryz.underlying112 hj jz0 jz1 jz2 rfl (by decide) (.slice (some ⟨g, 0, none⟩) fs.length vc) fs.length xs1 rfl HPL.out.out ⟨w6.heap.size, 0, none⟩ 1 1 [.slice (some ⟨g5, 0, none⟩) (0 + 1) c5] rfl rfl HC7.out (by intro u hu; simp at hu; subst hu; rfl) (by first | (simp [maxLen]; done) | (simp [maxLen]; omega)) (by omega) HPL.out.below.size ?_
                        intro v8 w8 hown8 hgrow8 hat8
                        have hOE : OwnE (w6.alloc (.cells #[.slice (some ⟨g5, 0, none⟩) (0 + 1) c5] 23)) w.heap.size (Value.slice (some ⟨g, 0, none⟩) fs.length vc).ownBlock (some ⟨g5, 0, none⟩) (([] : List E) ++ [e']) := by
                          have h1 := ownE_of (W := w6.alloc (.cells #[.slice (some ⟨g5, 0, none⟩) (0 + 1) c5] 23)) (a := some ⟨g5, 0, none⟩) (c := c5) (n := 0 + 1) (zs := ([] : List E) ++ [e']) (base := wr.heap.size) (e := 54) (by rw [ec_append]; exact HO7.out)
                          rcases h1 with h1 | ⟨b9, h2, h3, h4, h5⟩
                          · exact .inl h1
                          · exact .inr ⟨b9, h2, Nat.le_trans HPw.out.below.size h3, fun e1 => by have h9 : b9 < wr.heap.size := (HPw.out.out.lt b9 e1).2; omega, h5⟩
                        have hS8 := (HSb.out _ HJ7.out).grow hgrow8 HBG.out (row_after (HSb.out _ HJ7.out).1 HXS.out (Nat.lt_of_lt_of_le hgl HJ7.out.size) hown8 hat8)
                        have hPP := HPL.out.push (c := c5) (zs := ([] : List E) ++ [e']) hOE (by rw [List.length_append]; exact hown8) hgrow8 (hat8.imp id And.left)
                        rw [List.length_append] at hPP
                        have HPP := Lib.hid hPP
                        have HZZ := Lib.hid (HZd.out.push (g := g5) (n := 0 + 1) (c := c5))
                        have HS8 := Lib.hid hS8
                        clear hown8 hgrow8 hat8 hOE hPP hS8
                        refine hK.out _ _ HS8.out (fun hHeld => ?_)
                        clear hK K
                        try simp only [Act.put, List.getElem_toArray, List.getElem_cons_succ, List.getElem_cons_zero, List.setIfInBounds_toArray, List.set_cons_zero, List.set_cons_succ]
                        refine wpAnyH_ready (rs := [15]) (by kernel_rfl) (by simp) ?_
                        refine AllReadyH.cons (o := ?or48_15) ?hr48_15 ?kr48_15 AllReadyH.nil
                        case hr48_15 => exact rfl
                        case kr48_15 =>
                          intro K hK
                          go_simp
                          refine hK.out _ _ HS8.out (fun hHeld => ?_)
                          clear hK K
                          try simp only [Act.put, List.getElem_toArray, List.getElem_cons_succ, List.getElem_cons_zero, List.setIfInBounds_toArray, List.set_cons_zero, List.set_cons_succ]
                          refine wpAnyH_done (by kernel_rfl) ?_ _
                          clear hHeld
                          go_wp2_with fail
                          go_roundw
                          case rel => exact ⟨m + 1, _, by omega, by go_num, by rw [HFS.out]; exact HPP.out, HZZ.out⟩
                          case measure => simp [intOf]; omega
          | some ad =>
            clear HNZ
            go_upto_region 9 with fail
            refine wp_region_held_drew (S := RpS g m b off k (.slice (some ad) z.length cc') e') (by kernel_rfl) ?_ (fun hHeld => ?_)
            · exact (HSb.out _ HB0.out)
            generalize wr.drew = Wd at *
            refine wpAnyH_take (i := 0) (oi := ?oiq1) (v := ?vq1) ?hiq1 (by kernel_rfl) (by decide +kernel) (by decide +kernel) ?hqq1 ?hyq1 hHeld ?restq1
            case hiq1 => exact rfl
            case hqq1 => exact fun _ _ _ h => h
            case hyq1 =>
              refine Or.inl ⟨by rfl, ?_⟩
              intro w hSw
              go_simp
              (try with_reducible rfl)
            try simp only [Act.put, List.getElem_toArray, List.getElem_cons_succ, List.getElem_cons_zero, List.setIfInBounds_toArray, List.set_cons_zero, List.set_cons_succ]
            refine wpAnyH_take (i := 2) (oi := ?oiq2) (v := ?vq2) ?hiq2 (by kernel_rfl) (by decide +kernel) (by decide +kernel) ?hqq2 ?hyq2 hHeld ?restq2
            case hiq2 => exact rfl
            case hqq2 => exact fun _ _ _ h => h
            case hyq2 =>
              refine Or.inl ⟨by rfl, ?_⟩
              intro w hSw
              go_simp
              (try with_reducible rfl)
            try simp only [Act.put, List.getElem_toArray, List.getElem_cons_succ, List.getElem_cons_zero, List.setIfInBounds_toArray, List.set_cons_zero, List.set_cons_succ]
            refine wpAnyH_take (i := 3) (oi := ?oiq3) (v := ?vq3) ?hiq3 (by kernel_rfl) (by decide +kernel) (by decide +kernel) ?hqq3 ?hyq3 hHeld ?restq3
            case hiq3 => exact rfl
            case hqq3 => exact fun _ _ _ h => h
            case hyq3 =>
              refine Or.inl ⟨by rfl, ?_⟩
              intro w hSw
              go_simp
              (try with_reducible rfl)
            try simp only [Act.put, List.getElem_toArray, List.getElem_cons_succ, List.getElem_cons_zero, List.setIfInBounds_toArray, List.set_cons_zero, List.set_cons_succ]
            refine wpAnyH_take (i := 4) (oi := ?oiq4) (v := ?vq4) ?hiq4 (by kernel_rfl) (by decide +kernel) (by decide +kernel) ?hqq4 ?hyq4 hHeld ?restq4
            case hiq4 => exact rfl
            case hqq4 => exact fun _ _ _ h => h
            case hyq4 =>
              refine Or.inl ⟨by rfl, ?_⟩
              intro w hSw
              go_simp
              (try with_reducible rfl)
            try simp only [Act.put, List.getElem_toArray, List.getElem_cons_succ, List.getElem_cons_zero, List.setIfInBounds_toArray, List.set_cons_zero, List.set_cons_succ]
            refine wpAnyH_take (i := 5) (oi := ?oiq5) (v := (.slice (some ad) z.length cc')) ?hiq5 (by kernel_rfl) (by decide +kernel) (by decide +kernel) ?hqq5 ?hyq5 hHeld ?restq5
            case hiq5 => exact rfl
            case hqq5 => exact fun _ _ _ h => h
            case hyq5 =>
              refine Or.inl ⟨by rfl, ?_⟩
              intro w hSw
              have q0 := hSw.1
              go_simp
              (try with_reducible rfl)
            try simp only [Act.put, List.getElem_toArray, List.getElem_cons_succ, List.getElem_cons_zero, List.setIfInBounds_toArray, List.set_cons_zero, List.set_cons_succ]
            refine wpAnyH_take (i := 7) (oi := ?oiq6) (v := ?vq6) ?hiq6 (by kernel_rfl) (by decide +kernel) (by decide +kernel) ?hqq6 ?hyq6 hHeld ?restq6
            case hiq6 => exact rfl
            case hqq6 => exact fun _ _ _ h => h
            case hyq6 =>
              refine Or.inl ⟨by rfl, ?_⟩
              intro w hSw
              go_simp
              (try with_reducible rfl)
            try simp only [Act.put, List.getElem_toArray, List.getElem_cons_succ, List.getElem_cons_zero, List.setIfInBounds_toArray, List.set_cons_zero, List.set_cons_succ]
            refine wpAnyH_take (i := 8) (oi := ?oiq7) (v := ?vq7) ?hiq7 (by kernel_rfl) (by decide +kernel) (by decide +kernel) ?hqq7 ?hyq7 hHeld ?restq7
            case hiq7 => exact rfl
            case hqq7 => exact fun _ _ _ h => h
            case hyq7 =>
              refine Or.inl ⟨by rfl, ?_⟩
              intro w hSw
              go_simp
              (try with_reducible rfl)
            try simp only [Act.put, List.getElem_toArray, List.getElem_cons_succ, List.getElem_cons_zero, List.setIfInBounds_toArray, List.set_cons_zero, List.set_cons_succ]
            refine wpAnyH_take (i := 9) (oi := ?oiq8) (v := ?vq8) ?hiq8 (by kernel_rfl) (by decide +kernel) (by decide +kernel) ?hqq8 ?hyq8 hHeld ?restq8
            case hiq8 => exact rfl
            case hqq8 => exact fun _ _ _ h => h
            case hyq8 =>
              refine Or.inl ⟨by rfl, ?_⟩
              intro w hSw
              go_simp
              (try with_reducible rfl)
            try simp only [Act.put, List.getElem_toArray, List.getElem_cons_succ, List.getElem_cons_zero, List.setIfInBounds_toArray, List.set_cons_zero, List.set_cons_succ]
            refine wpAnyH_take (i := 10) (oi := ?oiq9) (v := (.agg #[.int .i64 e'.at_, .int .i64 e'.ln.op, .int .i64 e'.ln.to, .int .i64 e'.ln.a, .int .i64 e'.ln.b])) ?hiq9 (by kernel_rfl) (by decide +kernel) (by decide +kernel) ?hqq9 ?hyq9 hHeld ?restq9
            case hiq9 => exact rfl
            case hqq9 => exact fun _ _ _ h => h
            case hyq9 =>
              refine Or.inl ⟨by rfl, ?_⟩
              intro w hSw
              obtain ⟨_, q0, q1, q2, q3, q4⟩ := hSw
              go_simp
              (try with_reducible rfl)
            try simp only [Act.put, List.getElem_toArray, List.getElem_cons_succ, List.getElem_cons_zero, List.setIfInBounds_toArray, List.set_cons_zero, List.set_cons_succ]
            refine wpAnyH_ready (rs := [1, 11]) (by kernel_rfl) (by simp) ?_
            refine AllReadyH.cons (o := ?or27_1) ?hr27_1 ?kr27_1 (AllReadyH.cons (o := ?or27_11) ?hr27_11 ?kr27_11 AllReadyH.nil)
            case hr27_1 => exact rfl
            case hr27_11 => exact rfl
            case kr27_1 =>
              intro K hK
              go_simp
              have HB2 := Lib.hid (HB0.out.alloc HB0.out.size (.cells #[] 54))
              have hal := (Below.refl Wd.heap.size Wd).alloc (Nat.le_refl _) (.cells #[] 54)
              have HG3 := Lib.hid (show Wd.heap.size < (Wd.alloc (.cells #[] 54)).heap.size by simp)
              have HO4 := Lib.hid (show (Wd.alloc (.cells #[] 54)).ownsRow wr.heap.size 54 5 (.slice (some ⟨Wd.heap.size, 0, none⟩) 0 0) 0 [] from World.ownsRow_lit (base := wr.heap.size) (e := 54) (size := 5) Wd #[] 0 HB0.out.size (by simp [maxLen]) (by simp))
              clear hal
              refine hK.out _ _ (HSb.out _ HB2.out) (fun hHeld => ?_)
              clear hK K
              try simp only [Act.put, List.getElem_toArray, List.getElem_cons_succ, List.getElem_cons_zero, List.setIfInBounds_toArray, List.set_cons_zero, List.set_cons_succ]
              generalize (Wd.alloc (.cells #[] 54)) = W1 at *
              refine wpAnyH_ready (rs := [6, 11]) (by kernel_rfl) (by simp) ?_
              refine AllReadyH.cons (o := ?or20_6) ?hr20_6 ?kr20_6 (AllReadyH.cons (o := ?or20_11) ?hr20_11 ?kr20_11 AllReadyH.nil)
              case hr20_6 => exact rfl
              case hr20_11 => exact rfl
              case kr20_6 =>
                intro K hK
                rw [if_pos (by rfl)]
                refine wp_append_new (.tmp 22) (.tmp 26) 23 rfl wr.heap.size 54 i0 (.agg #[.int .i64 0, .int .i64 0, .int .i64 0, .int .i64 0, .int .i64 0]) 5 40 Tryz.underlying23 hi hz0 hz1 hz2 rfl (by decide) (.slice (some ⟨Wd.heap.size, 0, none⟩) 0 0) 0 [] rfl HO4.out ad z.length cc' (ec z) rfl (ec_length z) (HED.out.below HB2.out (Nat.le_refl _)).cells (ec_one z) (by first | (simp [maxLen]; done) | (simp [maxLen]; omega)) (by omega) HB2.out.size ?_
                intro v8 W5 hownj hgrowj _
                have HB6 := Lib.hid (HB2.out.grown hgrowj HB2.out.size (by rintro k hk; exact (HO4.out.lt k hk).1))
                have HV7 := Lib.hid (show W5.ownsRow wr.heap.size 54 5 v8 z.length (ec z) by simpa using hownj)
                clear hownj hgrowj
                refine hK.out _ _ (HSb.out _ HB6.out) (fun hHeld => ?_)
                clear hK K
                try simp only [Act.put, List.getElem_toArray, List.getElem_cons_succ, List.getElem_cons_zero, List.setIfInBounds_toArray, List.set_cons_zero, List.set_cons_succ]
                refine wpAnyH_ready (rs := [11]) (by kernel_rfl) (by simp) ?_
                refine AllReadyH.cons (o := ?or14_11) ?hr14_11 ?kr14_11 AllReadyH.nil
                case hr14_11 => exact rfl
                case kr14_11 =>
                  intro K hK
                  go_simp
                  have HB10 := Lib.hid (HB6.out.alloc HB6.out.size (.cells #[.int .i64 e'.at_, .int .i64 e'.ln.op, .int .i64 e'.ln.to, .int .i64 e'.ln.a, .int .i64 e'.ln.b] 54))
                  have hal := (Below.refl W5.heap.size W5).alloc (Nat.le_refl _) (.cells #[.int .i64 e'.at_, .int .i64 e'.ln.op, .int .i64 e'.ln.to, .int .i64 e'.ln.a, .int .i64 e'.ln.b] 54)
                  have HG11 := Lib.hid (show W5.heap.size < (W5.alloc (.cells #[.int .i64 e'.at_, .int .i64 e'.ln.op, .int .i64 e'.ln.to, .int .i64 e'.ln.a, .int .i64 e'.ln.b] 54)).heap.size by simp)
                  have HC12 := Lib.hid (show ∀ j u, (ec [e'])[j]? = some u → (W5.alloc (.cells #[.int .i64 e'.at_, .int .i64 e'.ln.op, .int .i64 e'.ln.to, .int .i64 e'.ln.a, .int .i64 e'.ln.b] 54)).cell? ((⟨W5.heap.size, 0, none⟩ : Addr).add j) = some u from cells_newE W5 e')
                  have HV13 := Lib.hid (own_below HV7.out hal (Nat.le_refl _))
                  clear hal
                  refine hK.out _ _ (HSb.out _ HB10.out) (fun hHeld => ?_)
                  clear hK K
                  try simp only [Act.put, List.getElem_toArray, List.getElem_cons_succ, List.getElem_cons_zero, List.setIfInBounds_toArray, List.set_cons_zero, List.set_cons_succ]
                  generalize (W5.alloc (.cells #[.int .i64 e'.at_, .int .i64 e'.ln.op, .int .i64 e'.ln.to, .int .i64 e'.ln.a, .int .i64 e'.ln.b] 54)) = W9 at *
                  refine wpAnyH_ready (rs := [12]) (by kernel_rfl) (by simp) ?_
                  refine AllReadyH.cons (o := ?or13_12) ?hr13_12 ?kr13_12 AllReadyH.nil
                  case hr13_12 => exact rfl
                  case kr13_12 =>
                    intro K hK
                    rw [if_pos (by rfl)]
                    refine wp_append_new (.tmp 27) (.tmp 32) 23 rfl wr.heap.size 54 i0 (.agg #[.int .i64 0, .int .i64 0, .int .i64 0, .int .i64 0, .int .i64 0]) 5 40 Tryz.underlying23 hi hz0 hz1 hz2 rfl (by decide) v8 z.length (ec z) rfl HV13.out ⟨W5.heap.size, 0, none⟩ 1 1 (ec [e']) rfl rfl HC12.out (ec_one _) (by first | (simp [maxLen]; done) | (simp [maxLen]; omega)) (by omega) HB10.out.size ?_
                    intro v6 w6 hown6 hgrow6 _
                    have HJB6 := Lib.hid (HB10.out.grown hgrow6 HB10.out.size (by rintro k hk; exact (HV13.out.lt k hk).1))
                    obtain ⟨a5, c5, rfl⟩ := own_slice hown6
                    obtain ⟨g5, rfl⟩ := own_form hown6 (Nat.succ_pos _)
                    have HJ5 := Lib.hid hown6
                    clear hown6 hgrow6
                    refine hK.out _ _ (HSb.out _ HJB6.out) (fun hHeld => ?_)
                    clear hK K
                    try simp only [Act.put, List.getElem_toArray, List.getElem_cons_succ, List.getElem_cons_zero, List.setIfInBounds_toArray, List.set_cons_zero, List.set_cons_succ]
                    refine wpAnyH_ready (rs := [13]) (by kernel_rfl) (by simp) ?_
                    refine AllReadyH.cons (o := ?or12_13) ?hr12_13 ?kr12_13 AllReadyH.nil
                    case hr12_13 => exact rfl
                    case kr12_13 =>
                      intro K hK
                      go_simp
                      have HO7 := Lib.hid (own_below HJ5.out ((Below.refl w6.heap.size w6).alloc (Nat.le_refl _) (.cells #[.slice (some ⟨g5, 0, none⟩) (z.length + 1) c5] 23)) (Nat.le_refl _))
                      have HC7 := Lib.hid (cell_one_new w6 (.slice (some ⟨g5, 0, none⟩) (z.length + 1) c5) 23)
                      have HJ7 := Lib.hid (HJB6.out.alloc HJB6.out.size (.cells #[.slice (some ⟨g5, 0, none⟩) (z.length + 1) c5] 23))
                      refine hK.out _ _ (HSb.out _ HJ7.out) (fun hHeld => ?_)
                      clear hK K
                      try simp only [Act.put, List.getElem_toArray, List.getElem_cons_succ, List.getElem_cons_zero, List.setIfInBounds_toArray, List.set_cons_zero, List.set_cons_succ]
                      refine wpAnyH_ready (rs := [14]) (by kernel_rfl) (by simp) ?_
                      refine AllReadyH.cons (o := ?or11_14) ?hr11_14 ?kr11_14 AllReadyH.nil
                      case hr11_14 => exact rfl
                      case kr11_14 =>
                        intro K hK
                        rw [if_pos (by rfl)]
                        have HPL := Lib.hid (HPw.out.low HJ7.out)
                        refine wp_append_new (.tmp 21) (.tmp 34) 112 rfl w.heap.size 23 j0 (.slice none 0 0) 1 24 Tryz.underlying112 hj jz0 jz1 jz2 rfl (by decide) (.slice (some ⟨g, 0, none⟩) fs.length vc) fs.length xs1 rfl HPL.out.out ⟨w6.heap.size, 0, none⟩ 1 1 [.slice (some ⟨g5, 0, none⟩) (z.length + 1) c5] rfl rfl HC7.out (by intro u hu; simp at hu; subst hu; rfl) (by first | (simp [maxLen]; done) | (simp [maxLen]; omega)) (by omega) HPL.out.below.size ?_
                        intro v8 w8 hown8 hgrow8 hat8
                        have hOE : OwnE (w6.alloc (.cells #[.slice (some ⟨g5, 0, none⟩) (z.length + 1) c5] 23)) w.heap.size (Value.slice (some ⟨g, 0, none⟩) fs.length vc).ownBlock (some ⟨g5, 0, none⟩) (z ++ [e']) := by
                          have h1 := ownE_of (W := w6.alloc (.cells #[.slice (some ⟨g5, 0, none⟩) (z.length + 1) c5] 23)) (a := some ⟨g5, 0, none⟩) (c := c5) (n := z.length + 1) (zs := z ++ [e']) (base := wr.heap.size) (e := 54) (by rw [ec_append]; exact HO7.out)
                          rcases h1 with h1 | ⟨b9, h2, h3, h4, h5⟩
                          · exact .inl h1
                          · exact .inr ⟨b9, h2, Nat.le_trans HPw.out.below.size h3, fun e1 => by have h9 : b9 < wr.heap.size := (HPw.out.out.lt b9 e1).2; omega, h5⟩
                        have hS8 := (HSb.out _ HJ7.out).grow hgrow8 HBG.out (row_after (HSb.out _ HJ7.out).1 HXS.out (Nat.lt_of_lt_of_le hgl HJ7.out.size) hown8 hat8)
                        have hPP := HPL.out.push (c := c5) (zs := z ++ [e']) hOE (by rw [List.length_append]; exact hown8) hgrow8 (hat8.imp id And.left)
                        rw [List.length_append] at hPP
                        have HPP := Lib.hid hPP
                        have HZZ := Lib.hid (HZd.out.push (g := g5) (n := z.length + 1) (c := c5))
                        have HS8 := Lib.hid hS8
                        clear hown8 hgrow8 hat8 hOE hPP hS8
                        refine hK.out _ _ HS8.out (fun hHeld => ?_)
                        clear hK K
                        try simp only [Act.put, List.getElem_toArray, List.getElem_cons_succ, List.getElem_cons_zero, List.setIfInBounds_toArray, List.set_cons_zero, List.set_cons_succ]
                        refine wpAnyH_ready (rs := [15]) (by kernel_rfl) (by simp) ?_
                        refine AllReadyH.cons (o := ?or10_15) ?hr10_15 ?kr10_15 AllReadyH.nil
                        case hr10_15 => exact rfl
                        case kr10_15 =>
                          intro K hK
                          go_simp
                          refine hK.out _ _ HS8.out (fun hHeld => ?_)
                          clear hK K
                          try simp only [Act.put, List.getElem_toArray, List.getElem_cons_succ, List.getElem_cons_zero, List.setIfInBounds_toArray, List.set_cons_zero, List.set_cons_succ]
                          refine wpAnyH_done (by kernel_rfl) ?_ _
                          clear hHeld
                          go_wp2_with fail
                          go_roundw
                          case rel => exact ⟨m + 1, _, by omega, by go_num, by rw [HFS.out]; exact HPP.out, HZZ.out⟩
                          case measure => simp [intOf]; omega
              case kr20_11 =>
                intro K hK
                go_simp
                have HB15 := Lib.hid (HB2.out.alloc HB2.out.size (.cells #[.int .i64 e'.at_, .int .i64 e'.ln.op, .int .i64 e'.ln.to, .int .i64 e'.ln.a, .int .i64 e'.ln.b] 54))
                have hal := (Below.refl W1.heap.size W1).alloc (Nat.le_refl _) (.cells #[.int .i64 e'.at_, .int .i64 e'.ln.op, .int .i64 e'.ln.to, .int .i64 e'.ln.a, .int .i64 e'.ln.b] 54)
                have HG16 := Lib.hid (show W1.heap.size < (W1.alloc (.cells #[.int .i64 e'.at_, .int .i64 e'.ln.op, .int .i64 e'.ln.to, .int .i64 e'.ln.a, .int .i64 e'.ln.b] 54)).heap.size by simp)
                have HC17 := Lib.hid (show ∀ j u, (ec [e'])[j]? = some u → (W1.alloc (.cells #[.int .i64 e'.at_, .int .i64 e'.ln.op, .int .i64 e'.ln.to, .int .i64 e'.ln.a, .int .i64 e'.ln.b] 54)).cell? ((⟨W1.heap.size, 0, none⟩ : Addr).add j) = some u from cells_newE W1 e')
                have HO18 := Lib.hid (own_below HO4.out hal (Nat.le_refl _))
                have HGap := Lib.hid (show Wd.heap.size < W1.heap.size from (HO4.out.lt _ rfl).2)
                clear hal
                refine hK.out _ _ (HSb.out _ HB15.out) (fun hHeld => ?_)
                clear hK K
                try simp only [Act.put, List.getElem_toArray, List.getElem_cons_succ, List.getElem_cons_zero, List.setIfInBounds_toArray, List.set_cons_zero, List.set_cons_succ]
                generalize (W1.alloc (.cells #[.int .i64 e'.at_, .int .i64 e'.ln.op, .int .i64 e'.ln.to, .int .i64 e'.ln.a, .int .i64 e'.ln.b] 54)) = W14 at *
                refine wpAnyH_ready (rs := [6]) (by kernel_rfl) (by simp) ?_
                refine AllReadyH.cons (o := ?or19_6) ?hr19_6 ?kr19_6 AllReadyH.nil
                case hr19_6 => exact rfl
                case kr19_6 =>
                  intro K hK
                  rw [if_pos (by rfl)]
                  refine wp_append_new (.tmp 22) (.tmp 26) 23 rfl wr.heap.size 54 i0 (.agg #[.int .i64 0, .int .i64 0, .int .i64 0, .int .i64 0, .int .i64 0]) 5 40 Tryz.underlying23 hi hz0 hz1 hz2 rfl (by decide) (.slice (some ⟨Wd.heap.size, 0, none⟩) 0 0) 0 [] rfl HO18.out ad z.length cc' (ec z) rfl (ec_length z) (HED.out.below HB15.out (Nat.le_refl _)).cells (ec_one z) (by first | (simp [maxLen]; done) | (simp [maxLen]; omega)) (by omega) HB15.out.size ?_
                  intro v22 W19 hownj hgrowj _
                  have HB20 := Lib.hid (HB15.out.grown hgrowj HB15.out.size (by rintro k hk; exact (HO18.out.lt k hk).1))
                  have HV21 := Lib.hid (show W19.ownsRow wr.heap.size 54 5 v22 z.length (ec z) by simpa using hownj)
                  have HC23 := Lib.hid (cells_growR HC17.out HG16.out hgrowj (show some W1.heap.size ≠ some Wd.heap.size from fun h => by injection h with h; have h1 := HGap.out; omega))
                  have HL24 := Lib.hid (Nat.lt_of_lt_of_le HG16.out hgrowj.size)
                  clear hownj hgrowj
                  refine hK.out _ _ (HSb.out _ HB20.out) (fun hHeld => ?_)
                  clear hK K
                  try simp only [Act.put, List.getElem_toArray, List.getElem_cons_succ, List.getElem_cons_zero, List.setIfInBounds_toArray, List.set_cons_zero, List.set_cons_succ]
                  refine wpAnyH_ready (rs := [12]) (by kernel_rfl) (by simp) ?_
                  refine AllReadyH.cons (o := ?or18_12) ?hr18_12 ?kr18_12 AllReadyH.nil
                  case hr18_12 => exact rfl
                  case kr18_12 =>
                    intro K hK
                    rw [if_pos (by rfl)]
                    refine wp_append_new (.tmp 27) (.tmp 32) 23 rfl wr.heap.size 54 i0 (.agg #[.int .i64 0, .int .i64 0, .int .i64 0, .int .i64 0, .int .i64 0]) 5 40 Tryz.underlying23 hi hz0 hz1 hz2 rfl (by decide) v22 z.length (ec z) rfl HV21.out ⟨W1.heap.size, 0, none⟩ 1 1 (ec [e']) rfl rfl HC23.out (ec_one _) (by first | (simp [maxLen]; done) | (simp [maxLen]; omega)) (by omega) HB20.out.size ?_
                    intro v6 w6 hown6 hgrow6 _
                    have HJB6 := Lib.hid (HB20.out.grown hgrow6 HB20.out.size (by rintro k hk; exact (HV21.out.lt k hk).1))
                    obtain ⟨a5, c5, rfl⟩ := own_slice hown6
                    obtain ⟨g5, rfl⟩ := own_form hown6 (Nat.succ_pos _)
                    have HJ5 := Lib.hid hown6
                    clear hown6 hgrow6
                    refine hK.out _ _ (HSb.out _ HJB6.out) (fun hHeld => ?_)
                    clear hK K
                    try simp only [Act.put, List.getElem_toArray, List.getElem_cons_succ, List.getElem_cons_zero, List.setIfInBounds_toArray, List.set_cons_zero, List.set_cons_succ]
                    refine wpAnyH_ready (rs := [13]) (by kernel_rfl) (by simp) ?_
                    refine AllReadyH.cons (o := ?or17_13) ?hr17_13 ?kr17_13 AllReadyH.nil
                    case hr17_13 => exact rfl
                    case kr17_13 =>
                      intro K hK
                      go_simp
                      have HO7 := Lib.hid (own_below HJ5.out ((Below.refl w6.heap.size w6).alloc (Nat.le_refl _) (.cells #[.slice (some ⟨g5, 0, none⟩) (z.length + 1) c5] 23)) (Nat.le_refl _))
                      have HC7 := Lib.hid (cell_one_new w6 (.slice (some ⟨g5, 0, none⟩) (z.length + 1) c5) 23)
                      have HJ7 := Lib.hid (HJB6.out.alloc HJB6.out.size (.cells #[.slice (some ⟨g5, 0, none⟩) (z.length + 1) c5] 23))
                      refine hK.out _ _ (HSb.out _ HJ7.out) (fun hHeld => ?_)
                      clear hK K
                      try simp only [Act.put, List.getElem_toArray, List.getElem_cons_succ, List.getElem_cons_zero, List.setIfInBounds_toArray, List.set_cons_zero, List.set_cons_succ]
                      refine wpAnyH_ready (rs := [14]) (by kernel_rfl) (by simp) ?_
                      refine AllReadyH.cons (o := ?or16_14) ?hr16_14 ?kr16_14 AllReadyH.nil
                      case hr16_14 => exact rfl
                      case kr16_14 =>
                        intro K hK
                        rw [if_pos (by rfl)]
                        have HPL := Lib.hid (HPw.out.low HJ7.out)
                        refine wp_append_new (.tmp 21) (.tmp 34) 112 rfl w.heap.size 23 j0 (.slice none 0 0) 1 24 Tryz.underlying112 hj jz0 jz1 jz2 rfl (by decide) (.slice (some ⟨g, 0, none⟩) fs.length vc) fs.length xs1 rfl HPL.out.out ⟨w6.heap.size, 0, none⟩ 1 1 [.slice (some ⟨g5, 0, none⟩) (z.length + 1) c5] rfl rfl HC7.out (by intro u hu; simp at hu; subst hu; rfl) (by first | (simp [maxLen]; done) | (simp [maxLen]; omega)) (by omega) HPL.out.below.size ?_
                        intro v8 w8 hown8 hgrow8 hat8
                        have hOE : OwnE (w6.alloc (.cells #[.slice (some ⟨g5, 0, none⟩) (z.length + 1) c5] 23)) w.heap.size (Value.slice (some ⟨g, 0, none⟩) fs.length vc).ownBlock (some ⟨g5, 0, none⟩) (z ++ [e']) := by
                          have h1 := ownE_of (W := w6.alloc (.cells #[.slice (some ⟨g5, 0, none⟩) (z.length + 1) c5] 23)) (a := some ⟨g5, 0, none⟩) (c := c5) (n := z.length + 1) (zs := z ++ [e']) (base := wr.heap.size) (e := 54) (by rw [ec_append]; exact HO7.out)
                          rcases h1 with h1 | ⟨b9, h2, h3, h4, h5⟩
                          · exact .inl h1
                          · exact .inr ⟨b9, h2, Nat.le_trans HPw.out.below.size h3, fun e1 => by have h9 : b9 < wr.heap.size := (HPw.out.out.lt b9 e1).2; omega, h5⟩
                        have hS8 := (HSb.out _ HJ7.out).grow hgrow8 HBG.out (row_after (HSb.out _ HJ7.out).1 HXS.out (Nat.lt_of_lt_of_le hgl HJ7.out.size) hown8 hat8)
                        have hPP := HPL.out.push (c := c5) (zs := z ++ [e']) hOE (by rw [List.length_append]; exact hown8) hgrow8 (hat8.imp id And.left)
                        rw [List.length_append] at hPP
                        have HPP := Lib.hid hPP
                        have HZZ := Lib.hid (HZd.out.push (g := g5) (n := z.length + 1) (c := c5))
                        have HS8 := Lib.hid hS8
                        clear hown8 hgrow8 hat8 hOE hPP hS8
                        refine hK.out _ _ HS8.out (fun hHeld => ?_)
                        clear hK K
                        try simp only [Act.put, List.getElem_toArray, List.getElem_cons_succ, List.getElem_cons_zero, List.setIfInBounds_toArray, List.set_cons_zero, List.set_cons_succ]
                        refine wpAnyH_ready (rs := [15]) (by kernel_rfl) (by simp) ?_
                        refine AllReadyH.cons (o := ?or15_15) ?hr15_15 ?kr15_15 AllReadyH.nil
                        case hr15_15 => exact rfl
                        case kr15_15 =>
                          intro K hK
                          go_simp
                          refine hK.out _ _ HS8.out (fun hHeld => ?_)
                          clear hK K
                          try simp only [Act.put, List.getElem_toArray, List.getElem_cons_succ, List.getElem_cons_zero, List.setIfInBounds_toArray, List.set_cons_zero, List.set_cons_succ]
                          refine wpAnyH_done (by kernel_rfl) ?_ _
                          clear hHeld
                          go_wp2_with fail
                          go_roundw
                          case rel => exact ⟨m + 1, _, by omega, by go_num, by rw [HFS.out]; exact HPP.out, HZZ.out⟩
                          case measure => simp [intOf]; omega
            case kr27_11 =>
              intro K hK
              go_simp
              have HB26 := Lib.hid (HB0.out.alloc HB0.out.size (.cells #[.int .i64 e'.at_, .int .i64 e'.ln.op, .int .i64 e'.ln.to, .int .i64 e'.ln.a, .int .i64 e'.ln.b] 54))
              have hal := (Below.refl Wd.heap.size Wd).alloc (Nat.le_refl _) (.cells #[.int .i64 e'.at_, .int .i64 e'.ln.op, .int .i64 e'.ln.to, .int .i64 e'.ln.a, .int .i64 e'.ln.b] 54)
              have HG27 := Lib.hid (show Wd.heap.size < (Wd.alloc (.cells #[.int .i64 e'.at_, .int .i64 e'.ln.op, .int .i64 e'.ln.to, .int .i64 e'.ln.a, .int .i64 e'.ln.b] 54)).heap.size by simp)
              have HC28 := Lib.hid (show ∀ j u, (ec [e'])[j]? = some u → (Wd.alloc (.cells #[.int .i64 e'.at_, .int .i64 e'.ln.op, .int .i64 e'.ln.to, .int .i64 e'.ln.a, .int .i64 e'.ln.b] 54)).cell? ((⟨Wd.heap.size, 0, none⟩ : Addr).add j) = some u from cells_newE Wd e')
              clear hal
              refine hK.out _ _ (HSb.out _ HB26.out) (fun hHeld => ?_)
              clear hK K
              try simp only [Act.put, List.getElem_toArray, List.getElem_cons_succ, List.getElem_cons_zero, List.setIfInBounds_toArray, List.set_cons_zero, List.set_cons_succ]
              generalize (Wd.alloc (.cells #[.int .i64 e'.at_, .int .i64 e'.ln.op, .int .i64 e'.ln.to, .int .i64 e'.ln.a, .int .i64 e'.ln.b] 54)) = W25 at *
              refine wpAnyH_ready (rs := [1]) (by kernel_rfl) (by simp) ?_
              refine AllReadyH.cons (o := ?or26_1) ?hr26_1 ?kr26_1 AllReadyH.nil
              case hr26_1 => exact rfl
              case kr26_1 =>
                intro K hK
                go_simp
                have HB30 := Lib.hid (HB26.out.alloc HB26.out.size (.cells #[] 54))
                have hal := (Below.refl W25.heap.size W25).alloc (Nat.le_refl _) (.cells #[] 54)
                have HG31 := Lib.hid (show W25.heap.size < (W25.alloc (.cells #[] 54)).heap.size by simp)
                have HO32 := Lib.hid (show (W25.alloc (.cells #[] 54)).ownsRow wr.heap.size 54 5 (.slice (some ⟨W25.heap.size, 0, none⟩) 0 0) 0 [] from World.ownsRow_lit (base := wr.heap.size) (e := 54) (size := 5) W25 #[] 0 HB26.out.size (by simp [maxLen]) (by simp))
                have HC33 := Lib.hid (cells_keepR HC28.out HG27.out hal)
                have HL34 := Lib.hid (Nat.lt_of_lt_of_le HG27.out hal.size)
                have HGap := Lib.hid (show Wd.heap.size < W25.heap.size from HG27.out)
                clear hal
                refine hK.out _ _ (HSb.out _ HB30.out) (fun hHeld => ?_)
                clear hK K
                try simp only [Act.put, List.getElem_toArray, List.getElem_cons_succ, List.getElem_cons_zero, List.setIfInBounds_toArray, List.set_cons_zero, List.set_cons_succ]
                generalize (W25.alloc (.cells #[] 54)) = W29 at *
                refine wpAnyH_ready (rs := [6]) (by kernel_rfl) (by simp) ?_
                refine AllReadyH.cons (o := ?or25_6) ?hr25_6 ?kr25_6 AllReadyH.nil
                case hr25_6 => exact rfl
                case kr25_6 =>
                  intro K hK
                  rw [if_pos (by rfl)]
                  refine wp_append_new (.tmp 22) (.tmp 26) 23 rfl wr.heap.size 54 i0 (.agg #[.int .i64 0, .int .i64 0, .int .i64 0, .int .i64 0, .int .i64 0]) 5 40 Tryz.underlying23 hi hz0 hz1 hz2 rfl (by decide) (.slice (some ⟨W25.heap.size, 0, none⟩) 0 0) 0 [] rfl HO32.out ad z.length cc' (ec z) rfl (ec_length z) (HED.out.below HB30.out (Nat.le_refl _)).cells (ec_one z) (by first | (simp [maxLen]; done) | (simp [maxLen]; omega)) (by omega) HB30.out.size ?_
                  intro v38 W35 hownj hgrowj _
                  have HB36 := Lib.hid (HB30.out.grown hgrowj HB30.out.size (by rintro k hk; exact (HO32.out.lt k hk).1))
                  have HV37 := Lib.hid (show W35.ownsRow wr.heap.size 54 5 v38 z.length (ec z) by simpa using hownj)
                  have HC39 := Lib.hid (cells_growR HC33.out HL34.out hgrowj (show some Wd.heap.size ≠ some W25.heap.size from fun h => by injection h with h; have h1 := HGap.out; omega))
                  have HL40 := Lib.hid (Nat.lt_of_lt_of_le HL34.out hgrowj.size)
                  clear hownj hgrowj
                  refine hK.out _ _ (HSb.out _ HB36.out) (fun hHeld => ?_)
                  clear hK K
                  try simp only [Act.put, List.getElem_toArray, List.getElem_cons_succ, List.getElem_cons_zero, List.setIfInBounds_toArray, List.set_cons_zero, List.set_cons_succ]
                  refine wpAnyH_ready (rs := [12]) (by kernel_rfl) (by simp) ?_
                  refine AllReadyH.cons (o := ?or24_12) ?hr24_12 ?kr24_12 AllReadyH.nil
                  case hr24_12 => exact rfl
                  case kr24_12 =>
                    intro K hK
                    rw [if_pos (by rfl)]
                    refine wp_append_new (.tmp 27) (.tmp 32) 23 rfl wr.heap.size 54 i0 (.agg #[.int .i64 0, .int .i64 0, .int .i64 0, .int .i64 0, .int .i64 0]) 5 40 Tryz.underlying23 hi hz0 hz1 hz2 rfl (by decide) v38 z.length (ec z) rfl HV37.out ⟨Wd.heap.size, 0, none⟩ 1 1 (ec [e']) rfl rfl HC39.out (ec_one _) (by first | (simp [maxLen]; done) | (simp [maxLen]; omega)) (by omega) HB36.out.size ?_
                    intro v6 w6 hown6 hgrow6 _
                    have HJB6 := Lib.hid (HB36.out.grown hgrow6 HB36.out.size (by rintro k hk; exact (HV37.out.lt k hk).1))
                    obtain ⟨a5, c5, rfl⟩ := own_slice hown6
                    obtain ⟨g5, rfl⟩ := own_form hown6 (Nat.succ_pos _)
                    have HJ5 := Lib.hid hown6
                    clear hown6 hgrow6
                    refine hK.out _ _ (HSb.out _ HJB6.out) (fun hHeld => ?_)
                    clear hK K
                    try simp only [Act.put, List.getElem_toArray, List.getElem_cons_succ, List.getElem_cons_zero, List.setIfInBounds_toArray, List.set_cons_zero, List.set_cons_succ]
                    refine wpAnyH_ready (rs := [13]) (by kernel_rfl) (by simp) ?_
                    refine AllReadyH.cons (o := ?or23_13) ?hr23_13 ?kr23_13 AllReadyH.nil
                    case hr23_13 => exact rfl
                    case kr23_13 =>
                      intro K hK
                      go_simp
                      have HO7 := Lib.hid (own_below HJ5.out ((Below.refl w6.heap.size w6).alloc (Nat.le_refl _) (.cells #[.slice (some ⟨g5, 0, none⟩) (z.length + 1) c5] 23)) (Nat.le_refl _))
                      have HC7 := Lib.hid (cell_one_new w6 (.slice (some ⟨g5, 0, none⟩) (z.length + 1) c5) 23)
                      have HJ7 := Lib.hid (HJB6.out.alloc HJB6.out.size (.cells #[.slice (some ⟨g5, 0, none⟩) (z.length + 1) c5] 23))
                      refine hK.out _ _ (HSb.out _ HJ7.out) (fun hHeld => ?_)
                      clear hK K
                      try simp only [Act.put, List.getElem_toArray, List.getElem_cons_succ, List.getElem_cons_zero, List.setIfInBounds_toArray, List.set_cons_zero, List.set_cons_succ]
                      refine wpAnyH_ready (rs := [14]) (by kernel_rfl) (by simp) ?_
                      refine AllReadyH.cons (o := ?or22_14) ?hr22_14 ?kr22_14 AllReadyH.nil
                      case hr22_14 => exact rfl
                      case kr22_14 =>
                        intro K hK
                        rw [if_pos (by rfl)]
                        have HPL := Lib.hid (HPw.out.low HJ7.out)
                        refine wp_append_new (.tmp 21) (.tmp 34) 112 rfl w.heap.size 23 j0 (.slice none 0 0) 1 24 Tryz.underlying112 hj jz0 jz1 jz2 rfl (by decide) (.slice (some ⟨g, 0, none⟩) fs.length vc) fs.length xs1 rfl HPL.out.out ⟨w6.heap.size, 0, none⟩ 1 1 [.slice (some ⟨g5, 0, none⟩) (z.length + 1) c5] rfl rfl HC7.out (by intro u hu; simp at hu; subst hu; rfl) (by first | (simp [maxLen]; done) | (simp [maxLen]; omega)) (by omega) HPL.out.below.size ?_
                        intro v8 w8 hown8 hgrow8 hat8
                        have hOE : OwnE (w6.alloc (.cells #[.slice (some ⟨g5, 0, none⟩) (z.length + 1) c5] 23)) w.heap.size (Value.slice (some ⟨g, 0, none⟩) fs.length vc).ownBlock (some ⟨g5, 0, none⟩) (z ++ [e']) := by
                          have h1 := ownE_of (W := w6.alloc (.cells #[.slice (some ⟨g5, 0, none⟩) (z.length + 1) c5] 23)) (a := some ⟨g5, 0, none⟩) (c := c5) (n := z.length + 1) (zs := z ++ [e']) (base := wr.heap.size) (e := 54) (by rw [ec_append]; exact HO7.out)
                          rcases h1 with h1 | ⟨b9, h2, h3, h4, h5⟩
                          · exact .inl h1
                          · exact .inr ⟨b9, h2, Nat.le_trans HPw.out.below.size h3, fun e1 => by have h9 : b9 < wr.heap.size := (HPw.out.out.lt b9 e1).2; omega, h5⟩
                        have hS8 := (HSb.out _ HJ7.out).grow hgrow8 HBG.out (row_after (HSb.out _ HJ7.out).1 HXS.out (Nat.lt_of_lt_of_le hgl HJ7.out.size) hown8 hat8)
                        have hPP := HPL.out.push (c := c5) (zs := z ++ [e']) hOE (by rw [List.length_append]; exact hown8) hgrow8 (hat8.imp id And.left)
                        rw [List.length_append] at hPP
                        have HPP := Lib.hid hPP
                        have HZZ := Lib.hid (HZd.out.push (g := g5) (n := z.length + 1) (c := c5))
                        have HS8 := Lib.hid hS8
                        clear hown8 hgrow8 hat8 hOE hPP hS8
                        refine hK.out _ _ HS8.out (fun hHeld => ?_)
                        clear hK K
                        try simp only [Act.put, List.getElem_toArray, List.getElem_cons_succ, List.getElem_cons_zero, List.setIfInBounds_toArray, List.set_cons_zero, List.set_cons_succ]
                        refine wpAnyH_ready (rs := [15]) (by kernel_rfl) (by simp) ?_
                        refine AllReadyH.cons (o := ?or21_15) ?hr21_15 ?kr21_15 AllReadyH.nil
                        case hr21_15 => exact rfl
                        case kr21_15 =>
                          intro K hK
                          go_simp
                          refine hK.out _ _ HS8.out (fun hHeld => ?_)
                          clear hK K
                          try simp only [Act.put, List.getElem_toArray, List.getElem_cons_succ, List.getElem_cons_zero, List.setIfInBounds_toArray, List.set_cons_zero, List.set_cons_succ]
                          refine wpAnyH_done (by kernel_rfl) ?_ _
                          clear hHeld
                          go_wp2_with fail
                          go_roundw
                          case rel => exact ⟨m + 1, _, by omega, by go_num, by rw [HFS.out]; exact HPP.out, HZZ.out⟩
                          case measure => simp [intOf]; omega
        · obtain rfl : m = pre.length := by omega
          rw [List.take_length] at hP
          have HP := Lib.hid hP
          have HZ := Lib.hid hZ
          clear hP hZ
          go_wp2_with fail
          go_roundw
          case rel => exact ⟨k + 1, xs1, by omega, by go_num, by rw [HST.out]; exact HP.out, HZ.out⟩
          case measure => simp [intOf]; omega
    · obtain rfl : k = ys.length := by omega
      rw [List.take_length] at hI
      have HR := Lib.hid hI.at_.1
      have HB := Lib.hid hI.below
      have HL := Lib.hid (show (ptL (ys.take ys.length)).length = (ptL ys).length by rw [List.take_length])
      clear hI hZ
      go_wp2_with fail
      go_ret
      exact ⟨_, cp0, by rw [HL.out]; rfl, HR.out, HB.out⟩

end Go.Proofs.YtkakdkolankmpaaGreat

/- IsMinimal of the document's side. -/
set_option linter.unusedVariables false
set_option linter.unusedSimpArgs false
namespace Go.Proofs.YtkakdkolankmpaaGreat
open Go.RowKit Tinker

set_option maxRecDepth 100000 in
set_option maxHeartbeats 2000000 in
theorem rIsMinimal_any (a g h : Option Addr) (ca cg ch : Nat) (ps : List L) (xs : List E) (ts : List T) (w : World) (hp : LinesAt w a ps) (hx : EditsAt w g xs) (hts : TestsAt w h ts) (hc : a = none → ca = 0) (hm : xs.length ≤ 1000) :
    Calls Tryz.prog 32 #[.slice a ps.length ca, .slice g xs.length cg, .slice h ts.length ch] w fun e w' => e = .returned (.tuple #[.bool (mnR ps xs ts), .int .i64 (vpx ps xs (vts ts))]) ∧ Below w.heap.size w w' := by
  have HV := Lib.hid (fun w h1 h2 h3 => rtested4_any a g h ca cg ch ps xs ts w h1 h2 h3 hm)
  have HP := Lib.hid hp
  have HX := Lib.hid hx
  have HT := Lib.hid hts
  clear hp hx hts
  by_cases hz : vpx ps xs (vts ts) = 0
  · have hok := okX_of hz
    have hvt := (vpx_ok hz).2.2.1
    have HG := Lib.hid (fun b c z w h1 h2 h3 (hs : z.Sublist xs) => rGood_any a b h ca c ch ps z ts w h1 hc h2 h3 (hok.sub hs) hvt)
    have HPt := Lib.hid (fun w h1 => rparts_any g cg xs w h1 hok.len)
    have HE := Lib.hid (show mnR ps xs ts = (gdB ps ts xs && (ptL xs).all fun z => !(decide (z.length < xs.length) && gdB ps ts z)) by unfold mnR; rw [if_pos hz, mn_eq]; rfl)
    have HSub := Lib.hid (fun z (hm : z ∈ ptL xs) => (ptL_mem xs z).1 hm)
    have h16 := pt_len hok.len
    rw [hz]
    rw [hz] at HV
    clear hz hok hvt hc
    generalize mnR ps xs ts = r at HE ⊢
    generalize gdB ps ts = gd at HG HE
    cases h0 : gd xs
    · have HG0 := Lib.hid (fun w h1 h2 h3 => HG.out g cg xs w h1 h2 h3 (List.Sublist.refl xs))
      rw [h0] at HG0
      have HR := Lib.hid (show r = false by rw [HE.out, h0]; rfl)
      rw [HR.out]
      clear h0 HE HG
      go_enter Tryz.func32, Tryz.ntmps32
      go_wp2_with fail
      refine (HV.out _ HP.out HX.out HT.out).mono ?_
      rintro e w1 ⟨rfl, hB1⟩
      have HB1 := Lib.hid hB1
      clear hB1 
      go_wp2_with fail
      refine (HG0.out _ (HP.out.below HB1.out (Nat.le_refl _)) (HX.out.below HB1.out (Nat.le_refl _)) (HT.out.below HB1.out (Nat.le_refl _))).mono ?_
      rintro e w2 ⟨rfl, hB2⟩
      have HB2 := Lib.hid (HB1.out.trans (hB2.mono HB1.out.size))
      clear hB2 
      go_wp2_with fail
      go_ret2
      exact ⟨rfl, HB2.out⟩
    · have HG0 := Lib.hid (fun w h1 h2 h3 => HG.out g cg xs w h1 h2 h3 (List.Sublist.refl xs))
      rw [h0] at HG0
      have HR := Lib.hid (show r = (ptL xs).all fun z => !(decide (z.length < xs.length) && gd z) by rw [HE.out, h0]; rfl)
      clear h0 HE
      go_enter Tryz.func32, Tryz.ntmps32
      go_wp2_with fail
      refine (HV.out _ HP.out HX.out HT.out).mono ?_
      rintro e w1 ⟨rfl, hB1⟩
      have HB1 := Lib.hid hB1
      clear hB1 
      go_wp2_with fail
      refine (HG0.out _ (HP.out.below HB1.out (Nat.le_refl _)) (HX.out.below HB1.out (Nat.le_refl _)) (HT.out.below HB1.out (Nat.le_refl _))).mono ?_
      rintro e w2 ⟨rfl, hB2⟩
      have HB2 := Lib.hid (HB1.out.trans (hB2.mono HB1.out.size))
      clear hB2 
      go_wp2_with fail
      refine (HPt.out _ (HX.out.below HB2.out (Nat.le_refl _))).mono ?_
      rintro e w3 ⟨a3, c3, rfl, hR, hB3⟩
      have HRw := Lib.hid (hR)
      have HB3 := Lib.hid (HB2.out.trans (hB3.mono HB2.out.size))
      clear hB3 hR
      go_wp2_with fail
      have HP := Lib.hid (HP.out.below HB3.out (Nat.le_refl _))
      have HT := Lib.hid (HT.out.below HB3.out (Nat.le_refl _))
      generalize ptL xs = sp at *
      clear HG0 HX HPt HV
      go_loopw [10] (fun s10 wr => ∃ k : Nat, k ≤ sp.length ∧ s10 = .int .i64 k ∧ (sp.take k).all (fun z => !(decide (z.length < xs.length) && gd z)) = true ∧ Below w3.heap.size w3 wr) (fun s10 _ => sp.length - (intOf s10).toNat)
      case atStart => exact ⟨0, Nat.zero_le _, rfl, by simp, Below.refl _ _⟩
      case round =>
        obtain ⟨k, hk, rfl, hall, hB⟩ := hrel
        have HA := Lib.hid hall
        have HB := Lib.hid hB
        clear hall hB
        by_cases hlt : k < sp.length
        · obtain ⟨b, off, z, a', c', rfl, hlb, hz, x0, hE⟩ := (HRw.out.below HB.out (Nat.le_refl _)).at_ hlt
          have HZ := Lib.hid hz
          have HE := Lib.hid hE
          have HG2 := Lib.hid (fun w h1 h2 h3 => HG.out a' c' z w h1 h2 h3 (HSub.out z (mem_of_get hz)))
          clear hz hE
          by_cases hl : z.length < xs.length
          · have hl1 : decide ((z.length : Int) < (xs.length : Int)) = true := by simp; omega
            cases hg : gd z
            · have HN := Lib.hid (all_snoc (f := fun z => !(decide (z.length < xs.length) && gd z)) HA.out HZ.out (by rw [hg]; simp))
              rw [hg] at HG2
              clear hg
              go_wp2_with fail
              refine (HG2.out _ (HP.out.below HB.out (Nat.le_refl _)) HE.out (HT.out.below HB.out (Nat.le_refl _))).mono ?_
              rintro e w5 ⟨rfl, hB5⟩
              have HB5 := Lib.hid (HB.out.trans (hB5.mono HB.out.size))
              clear hB5 x0
              go_wp2_with fail
              go_roundw
              case rel => exact ⟨k + 1, by omega, by go_num, HN.out, HB5.out⟩
              case measure => simp [intOf]; omega
            · have HN := Lib.hid (all_not (f := fun z => !(decide (z.length < xs.length) && gd z)) HZ.out (by rw [hg]; simp [hl]))
              rw [hg] at HG2
              clear hg
              go_wp2_with fail
              refine (HG2.out _ (HP.out.below HB.out (Nat.le_refl _)) HE.out (HT.out.below HB.out (Nat.le_refl _))).mono ?_
              rintro e w5 ⟨rfl, hB5⟩
              have HB5 := Lib.hid (HB.out.trans (hB5.mono HB.out.size))
              clear hB5 x0
              go_wp2_with fail
              go_ret2
              exact ⟨by rw [HR.out, HN.out]; rfl, HB3.out.trans (HB5.out.mono HB3.out.size)⟩
          · have hl1 : decide ((z.length : Int) < (xs.length : Int)) = false := by simp; omega
            have HN := Lib.hid (all_snoc (f := fun z => !(decide (z.length < xs.length) && gd z)) HA.out HZ.out (by simp [hl]))
            go_wp2_with fail
            go_roundw
            case rel => exact ⟨k + 1, by omega, by go_num, HN.out, HB.out⟩
            case measure => simp [intOf]; omega
        · have HN := Lib.hid (all_whole HA.out hlt)
          go_wp2_with fail
          go_ret2
          exact ⟨by rw [HR.out, HN.out]; rfl, HB3.out.trans (HB.out.mono HB3.out.size)⟩
  · have HE := Lib.hid (show mnR ps xs ts = false by unfold mnR; rw [if_neg hz])
    rw [HE.out]
    generalize vpx ps xs (vts ts) = c at HV hz ⊢
    have hz1 : (c != 0) = true := by simpa using hz
    have hz2 : (c == 0) = false := by simpa using hz
    clear hz HE
    go_enter Tryz.func32, Tryz.ntmps32
    go_wp2_with fail
    refine (HV.out _ HP.out HX.out HT.out).mono ?_
    rintro e w1 ⟨rfl, hB1⟩
    have HB1 := Lib.hid hB1
    clear hB1 
    go_wp2_with fail
    go_ret2
    exact ⟨rfl, HB1.out⟩

end Go.Proofs.YtkakdkolankmpaaGreat

/- The smallest part, the document's side. -/
set_option linter.unusedVariables false
set_option linter.unusedSimpArgs false
namespace Go.Proofs.YtkakdkolankmpaaGreat
open Go.RowKit Tinker

theorem drop_at4 {l : List Int} {k : Nat} {x : Int} (h : l[k]? = some x) : l.drop k = x :: l.drop (k + 1) := by
  obtain ⟨hk, rfl⟩ := List.getElem?_eq_some_iff.1 h
  exact List.drop_eq_getElem_cons hk
theorem befE_same4 {a b : List Int} {k : Nat} {x : Int} (h1 : a[k]? = some x) (h2 : b[k]? = some x) : befB (a.drop k) (b.drop k) = befB (a.drop (k + 1)) (b.drop (k + 1)) := by
  rw [drop_at4 h1, drop_at4 h2, befB, if_pos rfl]
theorem befE_diff4 {a b : List Int} {k : Nat} {x y : Int} (h1 : a[k]? = some x) (h2 : b[k]? = some y) (hne : x ≠ y) : befB (a.drop k) (b.drop k) = decide (x < y) := by
  rw [drop_at4 h1, drop_at4 h2, befB, if_neg hne]
theorem befE_end4 {a b : List Int} {k : Nat} (h : a.length ≤ k ∨ b.length ≤ k) (ha : k ≤ a.length) (hb : k ≤ b.length) : befB (a.drop k) (b.drop k) = decide (a.length < b.length) := by
  by_cases h1 : a.length ≤ k
  · rw [List.drop_of_length_le h1]
    by_cases h2 : b.length ≤ k
    · rw [List.drop_of_length_le h2, befB]
      simp; omega
    · obtain ⟨y, hy⟩ := get_of_lt (show k < b.length by omega)
      rw [drop_at4 hy, befB]
      simp; omega
  · have h2 : b.length ≤ k := by omega
    rw [List.drop_of_length_le h2]
    obtain ⟨x, hx⟩ := get_of_lt (show k < a.length by omega)
    rw [drop_at4 hx, befB]
    simp; omega

theorem vpx_sub4 {ps : List L} {xs z : List E} {c : Int} (h : vpx ps xs c = 0) (hs : z.Sublist xs) : vpx ps z c = 0 := by
  have hk := okX_of h
  have hd := okX_dist h
  obtain ⟨h1, h2, h3, h4⟩ := vpx_ok h
  obtain ⟨k1, k2, k3⟩ := vx_ok h2
  have hz := hk.sub hs
  have e : vx z = 0 := vx_0 hz.len (set_of (sub_dist hs hd)) fun e he => by
    have := k3 e (hs.subset he)
    rw [Bool.and_eq_true]
    exact ⟨btw_true.2 this.1, this.2⟩
  unfold vpx
  rw [h1, e, h3, if_pos (by rfl), if_pos]
  refine allBtw_of fun n hn => ?_
  obtain ⟨e, he, rfl⟩ := List.mem_map.1 hn
  have := hz.at_ e he
  omega
theorem pl_get {xs : List E} {k : Nat} {e : E} (h : xs[k]? = some e) : (pl xs)[k]? = some e.at_ := by unfold pl; rw [List.getElem?_map, h]; rfl

set_option maxRecDepth 100000 in
set_option maxHeartbeats 2000000 in
theorem rbefore_any (a g : Option Addr) (ca cg n : Nat) (xs ys : List E) (w : World) (hn : xs.length = n) (hl : ys.length = n) (hx : EditsAt w a xs) (hy : EditsAt w g ys) (hm : n ≤ 1000) :
    Calls Tryz.prog 107 #[.slice a n ca, .slice g n cg] w fun e w' => e = .returned (.bool (befB (pl xs) (pl ys))) ∧ Below w.heap.size w w' := by
  have HX := Lib.hid hx
  have HY := Lib.hid hy
  have HNx := Lib.hid hn
  have HNy := Lib.hid hl
  have HLx := Lib.hid (plLen xs)
  have HLy := Lib.hid (plLen ys)
  clear hx hy hn hl
  go_enter Tryz.func107, Tryz.ntmps107
  go_wp2_with fail
  go_loopw [5] (fun s5 wr => ∃ k : Nat, k ≤ n ∧ s5 = .int .i64 k ∧ befB (pl xs) (pl ys) = befB ((pl xs).drop k) ((pl ys).drop k) ∧ Below w.heap.size w wr) (fun s5 _ => n - (intOf s5).toNat)
  case atStart => exact ⟨0, Nat.zero_le _, rfl, rfl, Below.refl _ _⟩
  case round =>
    obtain ⟨k, hk, rfl, hb, hB⟩ := hrel
    have HBf := Lib.hid hb
    have HB := Lib.hid hB
    by_cases hlt : k < n
    · obtain ⟨b, off, x, rfl, hlb, hx1, x0, x1, x2, x3, x4⟩ := (HX.out.below hB (Nat.le_refl _)).at_ (k := k) (by rw [HNx.out]; exact hlt)
      obtain ⟨b2, off2, y, rfl, hlb2, hy1, y0, y1, y2, y3, y4⟩ := (HY.out.below hB (Nat.le_refl _)).at_ (k := k) (by rw [HNy.out]; exact hlt)
      clear hb hB
      by_cases he : x.at_ = y.at_
      · have HS := Lib.hid (befE_same4 (pl_get hx1) (by rw [he]; exact pl_get hy1))
        have d1 : (x.at_ == y.at_) = true := by simpa using he
        have d2 : (x.at_ != y.at_) = false := by simp [he]
        clear he hx1 hy1 x1 x2 x3 x4 y1 y2 y3 y4
        go_upto_region 4 with fail
        go_quiet (fail)
        go_wp2_with fail
        go_roundw
        case rel => exact ⟨k + 1, by omega, by go_num, HBf.out.trans HS.out, HB.out.trans ⟨rfl, rfl, rfl, Nat.le_refl _, fun _ _ => rfl⟩⟩
        case measure => simp [intOf]; omega
      · have HS := Lib.hid (befE_diff4 (pl_get hx1) (pl_get hy1) he)
        have d1 : (x.at_ == y.at_) = false := by simpa using he
        have d2 : (x.at_ != y.at_) = true := by simpa using he
        clear he hx1 hy1 x1 x2 x3 x4 y1 y2 y3 y4
        go_upto_region 4 with fail
        go_quiet (fail)
        go_wp2_with fail
        go_quiet (fail)
        go_wp2_with fail
        go_ret
        exact ⟨ret_bool (HBf.out.trans HS.out).symm, HB.out.trans ⟨rfl, rfl, rfl, Nat.le_refl _, fun _ _ => rfl⟩⟩
    · obtain rfl : k = n := by omega
      have HS := Lib.hid (befE_end4 (a := pl xs) (b := pl ys) (k := k) (.inl (by rw [HLx.out, HNx.out]; exact Nat.le_refl _)) (by rw [HLx.out, HNx.out]; exact Nat.le_refl _) (by rw [HLy.out, HNy.out]; exact Nat.le_refl _))
      have HF := Lib.hid (show befB (pl xs) (pl ys) = false by rw [HBf.out, HS.out, HLx.out, HLy.out, HNx.out, HNy.out]; simp)
      clear hb hB
      go_wp2_with fail
      go_ret
      exact ⟨ret_bool HF.out.symm, HB.out⟩

theorem smF_take {gd : List E → Bool} {sp : List (List E)} {k : Nat} {z : List E} (hz : sp[k]? = some z) : smF gd (sp.take (k + 1)) = if gd z then (match smF gd (sp.take k) with | none => some z | some y => if befE z y then some z else smF gd (sp.take k)) else smF gd (sp.take k) := by
  rw [take_snoc hz]; exact smF_snoc _ _ _

set_option maxRecDepth 100000 in
set_option maxHeartbeats 4000000 in
theorem rSmallest_any (a g h : Option Addr) (ca cg ch : Nat) (ps : List L) (xs : List E) (ts : List T) (w : World) (hp : LinesAt w a ps) (hx : EditsAt w g xs) (hts : TestsAt w h ts) (hc : a = none → ca = 0) (hm : xs.length ≤ 1000) :
    Calls Tryz.prog 37 #[.slice a ps.length ca, .slice g xs.length cg, .slice h ts.length ch] w (GivesSmE (smR ps xs ts) (vpx ps xs (vts ts)) w) := by
  have HV := Lib.hid (fun w h1 h2 h3 => rtested4_any a g h ca cg ch ps xs ts w h1 h2 h3 hm)
  have HP := Lib.hid hp
  have HX := Lib.hid hx
  have HT := Lib.hid hts
  clear hp hx hts
  by_cases hz : vpx ps xs (vts ts) = 0
  · have hok := okX_of hz
    have hvt := (vpx_ok hz).2.2.1
    have HG := Lib.hid (fun b c z w h1 h2 h3 (hs : z.Sublist xs) => rGood_any a b h ca c ch ps z ts w h1 hc h2 h3 (hok.sub hs) hvt)
    have HPt := Lib.hid (fun w h1 => rparts_any g cg xs w h1 hok.len)
    have HE := Lib.hid (show smR ps xs ts = smF (gdB ps ts) (ptL xs) by unfold smR; rw [if_pos hz]; rfl)
    have HSub := Lib.hid (fun z (hm : z ∈ ptL xs) => (ptL_mem xs z).1 hm)
    have hx4 := hok.len
    have h16 := pt_len hok.len
    rw [hz, HE.out]
    rw [hz] at HV
    clear hz hok hvt hc HE
    generalize gdB ps ts = gd at HG ⊢
    go_enter Tryz.func37, Tryz.ntmps37
    go_wp2_with fail
    refine (HV.out _ HP.out HX.out HT.out).mono ?_
    rintro e w1 ⟨rfl, hB1⟩
    have HB1 := Lib.hid hB1
    clear hB1 
    go_wp2_with fail
    refine (HPt.out _ (HX.out.below HB1.out (Nat.le_refl _))).mono ?_
    rintro e w2 ⟨a3, c3, rfl, hR, hB2⟩
    have HRw := Lib.hid (hR)
    have HB2 := Lib.hid (HB1.out.trans (hB2.mono HB1.out.size))
    clear hB2 hR
    go_wp2_with fail
    have HP := Lib.hid (HP.out.below HB2.out (Nat.le_refl _))
    have HT := Lib.hid (HT.out.below HB2.out (Nat.le_refl _))
    have HMl := Lib.hid (fun z (hz : z ∈ ptL xs) => pt_small hz hx4)
    generalize ptL xs = sp at *
    clear HX HPt HV
    go_loopw [11, 12, 13] (fun s11 s12 s13 wr => ∃ (k : Nat) (ao : Option Addr) (co : Nat), k ≤ sp.length ∧ s13 = .int .i64 k ∧ s11 = .slice ao ((smF gd (sp.take k)).getD []).length co ∧ s12 = .bool (smF gd (sp.take k)).isSome ∧ EditsAt wr ao ((smF gd (sp.take k)).getD []) ∧ (∀ z, smF gd (sp.take k) = some z → z ∈ sp) ∧ Below w2.heap.size w2 wr) (fun _ _ s13 _ => sp.length - (intOf s13).toNat)
    case atStart => exact ⟨0, none, 0, Nat.zero_le _, rfl, rfl, rfl, .inl rfl, fun z h => by simp [smF] at h, Below.refl _ _⟩
    case round =>
      obtain ⟨k, ao, co, hk, rfl, rfl, rfl, hO, hMm, hB⟩ := hrel
      have HO := Lib.hid hO
      have HB := Lib.hid hB
      have HMm := Lib.hid hMm
      clear hO hB hMm
      by_cases hlt : k < sp.length
      · obtain ⟨b, off, z, a', c', rfl, hlb, hz, x0, hE⟩ := (HRw.out.below HB.out (Nat.le_refl _)).at_ hlt
        have HNx := Lib.hid (smF_take (gd := gd) hz)
        have HZm := Lib.hid (mem_of_get hz)
        have HE := Lib.hid hE
        have HG2 := Lib.hid (fun w h1 h2 h3 => HG.out a' c' z w h1 h2 h3 (HSub.out z (mem_of_get hz)))
        have hz4 := HMl.out z (mem_of_get hz)
        clear hz hE
        generalize smF gd (sp.take k) = O0 at HNx HO HMm ⊢
        cases hg : gd z
        · have HN := Lib.hid (show smF gd (sp.take (k + 1)) = O0 by rw [HNx.out, hg]; rfl)
          rw [hg] at HG2
          go_wp2_with fail
          refine (HG2.out _ (HP.out.below HB.out (Nat.le_refl _)) HE.out (HT.out.below HB.out (Nat.le_refl _))).mono ?_
          rintro e w5 ⟨rfl, hB5⟩
          have HB5 := Lib.hid (HB.out.trans (hB5.mono HB.out.size))
          have HO5 := Lib.hid (HO.out.below hB5 (Nat.le_refl _))
          have HE5 := Lib.hid (HE.out.below hB5 (Nat.le_refl _))
          replace x0 := (hB5.cell (p := ⟨b, _, none⟩) hlb).trans x0
          have hsz5 := hB5.size
          clear hB5
          clear hg x0 HE5
          go_wp2_with fail
          go_roundw
          case rel => exact ⟨k + 1, ao, co, by omega, by go_num, by rw [HN.out], by rw [HN.out], by rw [HN.out]; exact HO5.out, by rw [HN.out]; exact HMm.out, HB5.out⟩
          case measure => simp [intOf]; omega
        · cases O0 with
          | none =>
            have HN := Lib.hid (show smF gd (sp.take (k + 1)) = some z by rw [HNx.out, hg]; rfl)
            simp only [Option.getD, Option.isSome] at HO ⊢
            rw [hg] at HG2
            go_wp2_with fail
            refine (HG2.out _ (HP.out.below HB.out (Nat.le_refl _)) HE.out (HT.out.below HB.out (Nat.le_refl _))).mono ?_
            rintro e w5 ⟨rfl, hB5⟩
            have HB5 := Lib.hid (HB.out.trans (hB5.mono HB.out.size))
            have HO5 := Lib.hid (HO.out.below hB5 (Nat.le_refl _))
            have HE5 := Lib.hid (HE.out.below hB5 (Nat.le_refl _))
            replace x0 := (hB5.cell (p := ⟨b, _, none⟩) hlb).trans x0
            have hsz5 := hB5.size
            clear hB5
            clear hg
            go_wp2_with fail
            go_roundw
            case rel => exact ⟨k + 1, a', c', by omega, by go_num, by rw [HN.out] <;> rfl, by rw [HN.out] <;> rfl, by rw [HN.out]; exact HE5.out, by rw [HN.out]; intro z' h; injection h with h; subst h; exact HZm.out, HB5.out⟩
            case measure => simp [intOf]; omega
          | some y =>
            have hy4 := HMl.out y (HMm.out y rfl)
            have HNY := Lib.hid (show smF gd (sp.take (k + 1)) = if befE z y then some z else some y by rw [HNx.out, hg]; rfl)
            simp only [Option.getD, Option.isSome] at HO ⊢
            rw [hg] at HG2
            go_wp2_with fail
            refine (HG2.out _ (HP.out.below HB.out (Nat.le_refl _)) HE.out (HT.out.below HB.out (Nat.le_refl _))).mono ?_
            rintro e w5 ⟨rfl, hB5⟩
            have HB5 := Lib.hid (HB.out.trans (hB5.mono HB.out.size))
            have HO5 := Lib.hid (HO.out.below hB5 (Nat.le_refl _))
            have HE5 := Lib.hid (HE.out.below hB5 (Nat.le_refl _))
            replace x0 := (hB5.cell (p := ⟨b, _, none⟩) hlb).trans x0
            have hsz5 := hB5.size
            clear hB5
            clear hg
            by_cases hl1 : z.length < y.length
            · have d1 : decide ((z.length : Int) < (y.length : Int)) = true := by simp; omega
              have HN := Lib.hid (show smF gd (sp.take (k + 1)) = some z by rw [HNY.out, show befE z y = true by unfold befE; simp [hl1]]; rfl)
              go_wp2_with fail
              go_roundw
              case rel => exact ⟨k + 1, a', c', by omega, by go_num, by rw [HN.out] <;> rfl, by rw [HN.out] <;> rfl, by rw [HN.out]; exact HE5.out, by rw [HN.out]; intro z' h; injection h with h; subst h; exact HZm.out, HB5.out⟩
              case measure => simp [intOf]; omega
            · have d1 : decide ((z.length : Int) < (y.length : Int)) = false := by simp; omega
              by_cases hl2 : z.length = y.length
              · have d2 : ((z.length : Int) == (y.length : Int)) = true := by rw [hl2]; simp
                have HBe := Lib.hid (fun w h1 h2 => rbefore_any a' ao c' co z.length z y w rfl hl2.symm h1 h2 (by omega))
                have HBz := Lib.hid (show befE z y = befB (pl z) (pl y) by unfold befE; simp [hl1, hl2])
                rw [HBz.out] at HNY
                have hl3 : y.length = z.length := hl2.symm
                have HLn := Lib.hid hl3
                rw [hl3]
                clear hl2 hl3 HBz
                generalize befB (pl z) (pl y) = bf at HNY HBe
                cases bf
                · have HN := Lib.hid (show smF gd (sp.take (k + 1)) = some y by rw [HNY.out]; rfl)
                  go_wp2_with fail
                  refine (HBe.out _ HE5.out HO5.out).mono ?_
                  rintro e w6 ⟨rfl, hB6⟩
                  have HO6 := Lib.hid (HO5.out.below hB6 (Nat.le_refl _))
                  have HB6 := Lib.hid (HB5.out.trans (hB6.mono HB5.out.size))
                  clear hB6 x0
                  go_wp2_with fail
                  go_roundw
                  case rel => exact ⟨k + 1, ao, co, by omega, by go_num, by rw [HN.out] <;> exact congrArg (fun n => Value.slice ao n co) HLn.out.symm, by rw [HN.out] <;> rfl, by rw [HN.out]; exact HO6.out, by rw [HN.out]; intro z' h; injection h with h; subst h; exact HMm.out _ rfl, HB6.out⟩
                  case measure => simp [intOf]; omega
                · have HN := Lib.hid (show smF gd (sp.take (k + 1)) = some z by rw [HNY.out]; rfl)
                  go_wp2_with fail
                  refine (HBe.out _ HE5.out HO5.out).mono ?_
                  rintro e w6 ⟨rfl, hB6⟩
                  have HE6 := Lib.hid (HE5.out.below hB6 (Nat.le_refl _))
                  have HB6 := Lib.hid (HB5.out.trans (hB6.mono HB5.out.size))
                  replace x0 := (hB6.cell (p := ⟨b, _, none⟩) (Nat.lt_of_lt_of_le hlb hsz5)).trans x0
                  clear hB6
                  go_wp2_with fail
                  go_roundw
                  case rel => exact ⟨k + 1, a', c', by omega, by go_num, by rw [HN.out] <;> rfl, by rw [HN.out] <;> rfl, by rw [HN.out]; exact HE6.out, by rw [HN.out]; intro z' h; injection h with h; subst h; exact HZm.out, HB6.out⟩
                  case measure => simp [intOf]; omega
              · have d2 : ((z.length : Int) == (y.length : Int)) = false := beq_eq_false_iff_ne.2 (by omega)
                have HN := Lib.hid (show smF gd (sp.take (k + 1)) = some y by rw [HNY.out, show befE z y = false by unfold befE; simp [hl1, hl2]]; rfl)
                go_wp2_with fail
                go_roundw
                case rel => exact ⟨k + 1, ao, co, by omega, by go_num, by rw [HN.out] <;> rfl, by rw [HN.out] <;> rfl, by rw [HN.out]; exact HO5.out, by rw [HN.out]; intro z' h; injection h with h; subst h; exact HMm.out _ rfl, HB5.out⟩
                case measure => simp [intOf]; omega
      · obtain rfl : k = sp.length := by omega
        rw [List.take_length] at *
        go_wp2_with fail
        go_ret3
        exact ⟨ao, co, rfl, HO.out, HB2.out.trans (HB.out.mono HB2.out.size)⟩
  · have HE := Lib.hid (show smR ps xs ts = none by unfold smR; rw [if_neg hz])
    rw [HE.out]
    generalize vpx ps xs (vts ts) = c at HV hz ⊢
    have hz1 : (c != 0) = true := by simpa using hz
    have hz2 : (c == 0) = false := by simpa using hz
    clear hz HE
    go_enter Tryz.func37, Tryz.ntmps37
    go_wp2_with fail
    refine (HV.out _ HP.out HX.out HT.out).mono ?_
    rintro e w1 ⟨rfl, hB1⟩
    have HB1 := Lib.hid hB1
    clear hB1 
    go_wp2_with fail
    go_ret3
    exact ⟨none, 0, rfl, .inl rfl, HB1.out⟩

end Go.Proofs.YtkakdkolankmpaaGreat
