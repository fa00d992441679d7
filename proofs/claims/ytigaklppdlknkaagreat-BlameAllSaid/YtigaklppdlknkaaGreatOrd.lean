/- Several texts in one. -/
import Derived.Test.YtigaklppdlknkaaGreatBlI
/- The order of sets in the document's words: before: contract. -/
set_option linter.unusedVariables false
set_option linter.unusedSimpArgs false
namespace Go.Proofs.YtigaklppdlknkaaGreat
open Go.RowKit Tinker

theorem drop_at {l : List Int} {k : Nat} {x : Int} (h : l[k]? = some x) : l.drop k = x :: l.drop (k + 1) := by
  obtain ⟨hk, rfl⟩ := List.getElem?_eq_some_iff.1 h
  exact List.drop_eq_getElem_cons hk
theorem befB_same {a b : List Int} {k : Nat} {x : Int} (h1 : a[k]? = some x) (h2 : b[k]? = some x) : befB (a.drop k) (b.drop k) = befB (a.drop (k + 1)) (b.drop (k + 1)) := by
  rw [drop_at h1, drop_at h2, befB, if_pos rfl]
theorem befB_diff {a b : List Int} {k : Nat} {x y : Int} (h1 : a[k]? = some x) (h2 : b[k]? = some y) (hne : x ≠ y) : befB (a.drop k) (b.drop k) = decide (x < y) := by
  rw [drop_at h1, drop_at h2, befB, if_neg hne]
theorem befB_end {a b : List Int} {k : Nat} (h : a.length ≤ k ∨ b.length ≤ k) (ha : k ≤ a.length) (hb : k ≤ b.length) : befB (a.drop k) (b.drop k) = decide (a.length < b.length) := by
  by_cases h1 : a.length ≤ k
  · rw [List.drop_of_length_le h1]
    by_cases h2 : b.length ≤ k
    · rw [List.drop_of_length_le h2, befB]
      simp; omega
    · obtain ⟨y, hy⟩ := get_of_lt (show k < b.length by omega)
      rw [drop_at hy, befB]
      simp; omega
  · have h2 : b.length ≤ k := by omega
    rw [List.drop_of_length_le h2]
    obtain ⟨x, hx⟩ := get_of_lt (show k < a.length by omega)
    rw [drop_at hx, befB]
    simp; omega

set_option maxRecDepth 100000 in
set_option maxHeartbeats 2000000 in
theorem before3_any (a b : Option Addr) (ca cb : Nat) (s t : List Int) (w : World) (h1 : IntsAt w a s) (h2 : IntsAt w b t) (hm : s.length ≤ 1000) (hm2 : t.length ≤ 1000) :
    Calls Tryz.prog 129 #[.slice a s.length ca, .slice b t.length cb] w fun e w' => e = .returned (.bool (befB s t)) ∧ Below w.heap.size w w' := by
  go_enter Tryz.func129, Tryz.ntmps129
  go_wp2_with fail
  go_loopw [5] (fun s5 wr => ∃ k : Nat, k ≤ s.length ∧ k ≤ t.length ∧ s5 = .int .i64 k ∧ befB (s.drop k) (t.drop k) = befB s t ∧ Below w.heap.size w wr) (fun s5 _ => s.length - (intOf s5).toNat)
  case atStart => exact ⟨0, Nat.zero_le _, Nat.zero_le _, rfl, rfl, Below.refl _ _⟩
  case round =>
    obtain ⟨k, hk1, hk2, rfl, hbe, hB⟩ := hrel
    have HB := Lib.hid hB
    by_cases hlt : k < s.length
    · by_cases hlt2 : k < t.length
      · obtain ⟨b1, o1, x, rfl, hlb1, hx, x0⟩ := (h1.below hB (Nat.le_refl _)).at_ hlt
        obtain ⟨b2, o2, y, rfl, hlb2, hy, y0⟩ := (h2.below hB (Nat.le_refl _)).at_ hlt2
        by_cases hxy : x = y
        · subst hxy
          have HE := Lib.hid ((befB_same hx hy).symm.trans hbe)
          have hxx : (x != x) = false := by simp
          clear hx hy h1 h2 hbe hB
          go_wp2_with fail
          go_quiet (fail)
          go_wp2_with fail
          go_roundw
          case rel => exact ⟨k + 1, by omega, by omega, by go_num, HE.out, HB.out.trans (Below.mono ⟨rfl, rfl, rfl, Nat.le_refl _, fun _ _ => rfl⟩ HB.out.size)⟩
          case measure => simp [intOf]; omega
        · have HE := Lib.hid ((befB_diff hx hy hxy).symm.trans hbe)
          have hxx : (x != y) = true := by simpa using hxy
          clear hx hy h1 h2 hbe hB hxy
          go_wp2_with fail
          go_quiet (fail)
          go_wp2_with fail
          go_quiet (fail)
          go_wp2_with fail
          go_ret
          exact ⟨ret_bool HE.out, HB.out.trans (Below.mono ⟨rfl, rfl, rfl, Nat.le_refl _, fun _ _ => rfl⟩ HB.out.size)⟩
      · have HE := Lib.hid ((befB_end (.inr (by omega)) hk1 hk2).symm.trans hbe)
        have hd : decide ((k : Int) < (t.length : Int)) = false := by simp; omega
        clear hbe hB h1 h2
        go_wp2_with fail
        go_ret
        exact ⟨ret_bool (by rw [← HE.out]), HB.out⟩
    · have HE := Lib.hid ((befB_end (.inl (by omega)) hk1 hk2).symm.trans hbe)
      have hd : decide ((k : Int) < (s.length : Int)) = false := by simp; omega
      clear hbe hB h1 h2
      go_wp2_with fail
      go_ret
      exact ⟨ret_bool (by rw [← HE.out]), HB.out⟩

end Go.Proofs.YtigaklppdlknkaaGreat

/- Sets in ascending order, in the document's words: contract. -/
set_option linter.unusedVariables false
set_option linter.unusedSimpArgs false
namespace Go.Proofs.YtigaklppdlknkaaGreat
open Go.RowKit Tinker

theorem RowC.grown {W W3 : World} {base : Nat} {v v' : Value} {gs : List (List Int)} {ys : List Value} (hz : RowC W base v.ownBlock gs ys) (hgrow : W.grownBy W3 v.ownBlock) (hat : v'.ownBlock = v.ownBlock ∨ v'.ownBlock = some W.heap.size) : RowC W3 base v'.ownBlock gs ys := fun k zs hk => by
  obtain ⟨a, c, h1, h2⟩ := hz k zs hk
  refine ⟨a, c, h1, ?_⟩
  rcases h2 with h2 | ⟨b, h3, h4, h5, h6⟩
  · exact .inl h2
  · refine .inr ⟨b, h3, h4, fun e => ?_, h6.same (hgrow.block b h6.lt (fun e => h5 e.symm))⟩
    rcases hat with e1 | e1
    · exact h5 (e1.symm.trans e)
    · rw [e1] at e; injection e with e
      have := h6.lt
      omega
theorem RowC.low {W W' : World} {base : Nat} {o : Option Nat} {gs : List (List Int)} {ys : List Value} (h : RowC W base o gs ys) (hb : Below W.heap.size W W') : RowC W' base o gs ys := h.same fun b hlt _ _ => hb.block b hlt
theorem RowC.app {W : World} {base : Nat} {o : Option Nat} {fs gs : List (List Int)} {xs ys : List Value} (h1 : RowC W base o fs xs) (h2 : RowC W base o gs ys) (hl : xs.length = fs.length) : RowC W base o (fs ++ gs) (xs ++ ys) := fun k zs hk => by
  rcases Nat.lt_or_ge k fs.length with hlt | hge
  · rw [List.getElem?_append_left hlt] at hk
    obtain ⟨a, c, h, h'⟩ := h1 k zs hk
    exact ⟨a, c, by rw [List.getElem?_append_left (by omega)]; exact h, h'⟩
  · rw [List.getElem?_append_right hge] at hk
    obtain ⟨a, c, h, h'⟩ := h2 _ zs hk
    exact ⟨a, c, by rw [List.getElem?_append_right (by omega), hl]; exact h, h'⟩
theorem RowC.none_of {W : World} {base : Nat} {o : Option Nat} {fs : List (List Int)} {xs : List Value} (h : RowC W base o fs xs) : RowC W base none fs xs := fun k zs hk => by
  obtain ⟨a, c, h1, h2⟩ := h k zs hk
  exact ⟨a, c, h1, h2.free (fun b _ _ => by simp)⟩
theorem RowC.take {W : World} {base : Nat} {o : Option Nat} {fs : List (List Int)} {xs : List Value} (h : RowC W base o fs xs) (n : Nat) : RowC W base o (fs.take n) (xs.take n) := fun k zs hk => by
  rw [List.getElem?_take] at hk
  split at hk
  · obtain ⟨a, c, h1, h2⟩ := h k zs hk
    exact ⟨a, c, by rw [List.getElem?_take_of_lt (by assumption)]; exact h1, h2⟩
  · cases hk
theorem RowC.drop {W : World} {base : Nat} {o : Option Nat} {fs : List (List Int)} {xs : List Value} (h : RowC W base o fs xs) (n : Nat) : RowC W base o (fs.drop n) (xs.drop n) := fun k zs hk => by
  rw [List.getElem?_drop] at hk
  obtain ⟨a, c, h1, h2⟩ := h _ zs hk
  exact ⟨a, c, by rw [List.getElem?_drop]; exact h1, h2⟩
/-- The own list and how many lists it has. -/
theorem takeW_len {p : List Int → Bool} {l : List (List Int)} : (l.takeWhile p).length ≤ l.length := (List.takeWhile_sublist p).length_le
theorem takeW_take {p : List Int → Bool} : ∀ {l : List (List Int)} {k : Nat}, (∀ j, j < k → ∀ z, l[j]? = some z → p z = true) → (k = l.length ∨ ∃ z, l[k]? = some z ∧ p z = false) → l.takeWhile p = l.take k ∧ l.dropWhile p = l.drop k
  | [], k, _, h => by
    rcases h with h | ⟨z, hz, _⟩
    · subst h; simp
    · simp at hz
  | x :: l, 0, h1, h => by
    rcases h with h | ⟨z, hz, hp⟩
    · simp at h
    · simp at hz; subst hz
      rw [List.takeWhile_cons, List.dropWhile_cons, hp]
      simp
  | x :: l, k + 1, h1, h => by
    have hx : p x = true := h1 0 (by omega) x rfl
    obtain ⟨i1, i2⟩ := takeW_take (l := l) (k := k) (fun j hj z hz => h1 (j + 1) (by omega) z (by simpa using hz)) (by
      rcases h with h | ⟨z, hz, hp⟩
      · left; simpa using h
      · right; exact ⟨z, by simpa using hz, hp⟩)
    rw [List.takeWhile_cons, List.dropWhile_cons, hx]
    simp [i1, i2]
theorem ordL_snoc {l : List Nat} {k m : Nat} (h : l[k]? = some m) : ordL (l.take (k + 1)) = insO (ordL (l.take k)) (numsM m) := by
  unfold ordL
  rw [List.take_add_one, h, List.foldl_append]
  rfl
theorem insO_len (o : List (List Int)) (x : List Int) : (insO o x).length = o.length + 1 := by
  unfold insO
  have := congrArg List.length (List.takeWhile_append_dropWhile (p := (befB · x)) (l := o))
  rw [List.length_append] at this
  rw [List.length_append, List.length_cons]
  omega
theorem ordL_len (l : List Nat) : (ordL l).length = l.length := by
  unfold ordL
  have : ∀ (o : List (List Int)), (l.foldl (fun o m => insO o (numsM m)) o).length = o.length + l.length := by
    induction l with
    | nil => intro o; simp
    | cons x r ih => intro o; rw [List.foldl_cons, ih, insO_len, List.length_cons]; omega
  simpa using this []

theorem append_none_at {P : Program} {w : World} {ops : Array Oper} {rest : List Oper} {o : Oper} {a : Act} {Q : Exit → Act → World → Prop} (hgd : o.guard = none) (s x : Operand) (t : TypeId)
    (ho : o.op = .call { callee := .builtin .append, args := #[s, x], argTypes := #[t, t] })
    (base : Nat) (e : TypeId) (i : TypeInfo) (size : Nat) (ht : P.underlying t = some (.slice e)) (hi : P.info? e = some i)
    (v : Value) (n : Nat) (xs : List Value) (hs : a.eval s = v) (hown : w.ownsRow base e size v n xs) (hx : a.eval x = .slice none 0 0)
    (h : ∀ v', v' = v → wpList P ops Q rest (a.put o.dst v') w) : wpList P ops Q (o :: rest) a w :=
  wpList_append_own_none hgd s x t ho base e i size ht hi v n xs hs hown hx (h v rfl)
theorem ordL_sub : ∀ (l : List Nat) (out : List (List Int)) (y : List Int), y ∈ l.foldl (fun o m => insO o (numsM m)) out → y ∈ out ∨ ∃ m, y = numsM m
  | [], out, y, h => .inl h
  | m :: r, out, y, h => by
    rcases ordL_sub r _ y h with h1 | h1
    · rcases insO_mem.1 h1 with e | e
      · exact .inr ⟨m, e⟩
      · exact .inl e
    · exact .inr h1
theorem ordL_small {l : List Nat} {y : List Int} (h : y ∈ ordL l) : y.length ≤ 8 := by
  rcases ordL_sub l [] y h with h1 | ⟨m, e⟩
  · simp at h1
  · rw [e]; exact numsM_len m
theorem RowsI.app {w : World} {v v' : Value} {fs gs : List (List Int)} {xs ys : List Value} {W W3 : World} (h : RowsI w v fs xs W) (hz : RowC W w.heap.size v.ownBlock gs ys)
    (hown : W3.ownsRow w.heap.size 34 1 v' (fs.length + gs.length) (xs ++ ys)) (hgrow : W.grownBy W3 v.ownBlock) (hat : v'.ownBlock = v.ownBlock ∨ v'.ownBlock = some W.heap.size) :
    RowsI w v' (fs ++ gs) (xs ++ ys) W3 :=
  ⟨by rw [List.length_append]; exact hown, (h.st.grown hgrow hat).app (hz.grown hgrow hat) (by simpa using h.out.1), h.below.grown hgrow h.below.size (fun k hk => by have := (h.out.lt k hk).1; omega)⟩
theorem insO_at {o : List (List Int)} {x : List Int} {j : Nat} (h1 : o.takeWhile (befB · x) = o.take j) (h2 : o.dropWhile (befB · x) = o.drop j) : insO o x = (o.take j ++ [x]) ++ o.drop j := by
  unfold insO
  rw [h1, h2]
  simp
theorem RowC.one {W : World} {base : Nat} {o : Option Nat} {a : Option Addr} {c : Nat} {x : List Int} (h : OwnL W base o a x) : RowC W base o [x] [.slice a x.length c] := fun k zs hk => by
  match k, hk with
  | 0, hk => simp at hk; subst hk; exact ⟨a, c, rfl, h⟩
  | k + 1, hk => simp at hk
theorem RowC.oneCell {W : World} {base : Nat} {o : Option Nat} {fs : List (List Int)} {xs : List Value} (h : RowC W base o fs xs) (hl : xs.length = fs.length) : ∀ u ∈ xs, u.oneCell' = true := fun u hu => by
  obtain ⟨i, hi⟩ := List.getElem?_of_mem hu
  have hlt := (List.getElem?_eq_some_iff.1 hi).1
  obtain ⟨z, hz⟩ := get_of_lt (show i < fs.length by omega)
  obtain ⟨a, c, h1, _⟩ := h i z hz
  rw [hi] at h1
  injection h1 with h1
  subst h1
  rfl
theorem RowsI.givesB {w : World} {v : Value} {fs : List (List Int)} {xs : List Value} {W : World} (h : RowsI w v fs xs W) : GivesRowsB fs w (.returned v) W := by
  obtain ⟨a, c, rfl⟩ := own_slice h.out
  refine ⟨a, c, rfl, ?_, h.below⟩
  rcases Nat.eq_zero_or_pos fs.length with h0 | h0
  · exact .inl (List.eq_nil_of_length_eq_zero h0)
  · obtain ⟨g, hg⟩ := own_form h.out h0
    subst hg
    refine .inr ⟨g, 0, rfl, own_lt h.out, fun j zs hj => ?_⟩
    obtain ⟨a', c', h1, h2⟩ := h.st.none_of j zs hj
    exact ⟨a', c', by rw [Nat.zero_add]; exact own_cell h.out h1, h2⟩
theorem below_al (W : World) (o : Obj) : Below W.heap.size W (W.alloc o) := (Below.refl _ _).alloc (Nat.le_refl _) _
theorem own_cap {w : World} {base g n size c : Nat} {e : TypeId} {xs : List Value} (h : w.ownsRow base e size (.slice (some ⟨g, 0, none⟩) n c) n xs) : n ≤ c := by
  rcases h.2 with ⟨he, _⟩ | ⟨g', cap, cur, he, _, _, hn, _⟩
  · cases he
  · injection he with _ _ h3
    omega

set_option maxRecDepth 100000 in
set_option maxHeartbeats 4000000 in
theorem ordered_any (a : Option Addr) (cap : Nat) (ms : List Nat) (w : World) (hf : IntsAt w a (ni ms)) (hv : ∀ m ∈ ms, m < 256) (hm : ms.length ≤ 300) :
    Calls Tryz.prog 71 #[.slice a ms.length cap] w (GivesRowsB (ordL ms) w) := by
  obtain ⟨j0, hjj, jz0, jz1, jz2⟩ := info_parts info_ints
  have HF := Lib.hid hf
  have HV := Lib.hid hv
  clear hf hv
  go_enter Tryz.func71, Tryz.ntmps71
  go_wp2_with fail
  go_loopw [3, 4] (fun s3 s4 wr => ∃ (k : Nat) (xs : List Value), k ≤ ms.length ∧ s4 = .int .i64 k ∧ RowsI w s3 (ordL (ms.take k)) xs wr ∧ (k = 0 → s3 = .slice none 0 0)) (fun _ s4 _ => ms.length - (intOf s4).toNat)
  case atStart => exact ⟨0, [], Nat.zero_le _, rfl, RowsI.nil (Below.refl _ _), fun _ => rfl⟩
  case round =>
    obtain ⟨k, xs, hk, rfl, hI, hk0⟩ := hrel
    by_cases hlt : k < ms.length
    · obtain ⟨b, off, z, rfl, hlb, hz, h0⟩ := (HF.out.below hI.below (Nat.le_refl _)).at_ (by rw [ni_len]; exact hlt)
      obtain ⟨m, rfl, hmk⟩ := ni_get hz
      have HM := Lib.hid (rList3_any m (HV.out m (mem_of_get hmk)) wr)
      have HS := Lib.hid (ordL_snoc hmk)
      have hx8 := numsM_len m
      have hol : (ordL (ms.take k)).length = k := by rw [ordL_len, List.length_take]; omega
      have HSM := Lib.hid (fun y h => ordL_small (l := ms.take k) (y := y) h)
      have hxl : xs.length = k := by have h := hI.out.1; rw [hol] at h; omega
      obtain ⟨va, vc, rfl⟩ := own_slice hI.out
      rw [hol] at hI hk0
      have HI := Lib.hid hI
      have HOL := Lib.hid hol
      have HK0 := Lib.hid hk0
      clear hz hmk hI hol hk0
      generalize ordL (ms.take k) = o at HI HS HOL HSM
      generalize numsM m = x at HM HS hx8
      rw [HOL.out]
      go_wp2_with fail
      refine HM.out.mono ?_
      rintro e w1 ⟨a1, c1, rfl, ho, hB1⟩
      have HX := Lib.hid ((ownL_of ho).wide HI.out.below.size)
      have HI1 := Lib.hid (HI.out.low hB1)
      clear ho hB1 HI h0
      go_wp2_with fail
      go_loopw [6] (fun s6 wr2 => ∃ j : Nat, j ≤ k ∧ s6 = .int .i64 j ∧ (∀ i, i < j → ∀ z, o[i]? = some z → befB z x = true) ∧ Below w1.heap.size w1 wr2) (fun s6 _ => k - (intOf s6).toNat)
      case atStart => exact ⟨0, Nat.zero_le _, rfl, fun i hi => absurd hi (Nat.not_lt_zero _), Below.refl _ _⟩
      case round =>
        obtain ⟨j, hj, rfl, hpre, hBj⟩ := hrel
        have HPRE := Lib.hid hpre
        have HBJ := Lib.hid hBj
        clear hpre hBj
        have hBB : ∃ B : Bool, (B = true → j < k ∧ ∀ z, o[j]? = some z → befB z x = true) ∧ (B = false → (j = k ∨ ∃ z, o[j]? = some z ∧ befB z x = false)) := by
          by_cases hjk : j < k
          · obtain ⟨z, hz⟩ := get_of_lt (show j < o.length by rw [HOL.out]; exact hjk)
            refine ⟨befB z x, fun h => ⟨hjk, fun y hy => ?_⟩, fun h => .inr ⟨z, hz, h⟩⟩
            rw [hz] at hy; injection hy with hy; rw [← hy]; exact h
          · exact ⟨false, (fun h => by cases h), (fun _ => .inl (by omega))⟩
        obtain ⟨B, hBt, hBf⟩ := hBB
        have HBT := Lib.hid hBt
        have HBF := Lib.hid hBf
        clear hBt hBf
        go_upto_region 7 with fail
        go_cut [30] (fun s30 wx => s30 = .bool B ∧ Below wr.heap.size wr wx)
        case first =>
          cases B
          · rcases HBF.out rfl with hjk | ⟨z', hz', hzf⟩
            · subst hjk
              go_wp2_with fail
              go_meet
              exact ⟨rfl, Below.refl _ _⟩
            · obtain ⟨gb, goff, z, a2, c2, hg, hglt, hzj, z0, hzi⟩ := (HI1.out.at_.1.below HBJ.out (Nat.le_refl _)).at_ (k := j) (List.getElem?_eq_some_iff.1 hz').1
              subst hg
              have hzz : z = z' := by rw [hz'] at hzj; injection hzj with h; exact h.symm
              subst hzz
              have hjk : j < k := by rw [← HOL.out]; exact (List.getElem?_eq_some_iff.1 hz').1
              have HB3 := Lib.hid (before3_any a2 a1 c2 c1 z x wr hzi (HX.out.at_.below HBJ.out (Nat.le_refl _)) (by have := HSM.out z (mem_of_get hzj); omega) (by omega))
              rw [hzf] at HB3
              clear hz' hzf hzj hzi
              go_wp2_with fail
              refine HB3.out.mono ?_
              rintro e w2 ⟨rfl, hB2⟩
              go_wp2_with fail
              go_meet
              exact ⟨rfl, hB2⟩
          · obtain ⟨hjk, hzt⟩ := HBT.out rfl
            obtain ⟨gb, goff, z, a2, c2, hg, hglt, hzj, z0, hzi⟩ := (HI1.out.at_.1.below HBJ.out (Nat.le_refl _)).at_ (k := j) (by rw [HOL.out]; exact hjk)
            subst hg
            have HB3 := Lib.hid (before3_any a2 a1 c2 c1 z x wr hzi (HX.out.at_.below HBJ.out (Nat.le_refl _)) (by have := HSM.out z (mem_of_get hzj); omega) (by omega))
            rw [hzt z hzj] at HB3
            clear hzt hzj hzi
            go_wp2_with fail
            refine HB3.out.mono ?_
            rintro e w2 ⟨rfl, hB2⟩
            go_wp2_with fail
            go_meet
            exact ⟨rfl, hB2⟩
        case rest =>
          obtain ⟨rfl, hB2⟩ := hcut
          have HBX := Lib.hid (HBJ.out.trans (hB2.mono HBJ.out.size))
          clear hB2
          cases B
          rotate_left
          · obtain ⟨hjk, hzt⟩ := HBT.out rfl
            have HZT := Lib.hid hzt
            clear hzt
            go_wp2_with fail
            go_roundw
            case rel => exact ⟨j + 1, by omega, by go_num, fun i hi z hz => by
              rcases Nat.lt_or_ge i j with h | h
              · exact HPRE.out i h z hz
              · obtain rfl : i = j := by omega
                exact HZT.out z hz, HBX.out⟩
            case measure => simp [intOf]; omega
          · have htd := takeW_take (p := (befB · x)) (l := o) (k := j) HPRE.out (by rw [HOL.out]; exact HBF.out rfl)
            have HIN := Lib.hid (insO_at htd.1 htd.2)
            have HI2 := Lib.hid (HI1.out.low HBX.out)
            have HX2 := Lib.hid (HX.out.low HBX.out)
            clear htd HI1 HX HBF HBT HPRE HBJ
            by_cases hk1 : k = 0
            · subst hk1
              obtain rfl : j = 0 := by omega
              have hv0 := HK0.out rfl
              injection hv0 with q1 q2 q3
              subst q1 q3
              have ho0 : o = [] := List.eq_nil_of_length_eq_zero HOL.out
              have hown0 : wc.ownsRow w.heap.size 34 1 (.slice none 0 0) 0 [] := World.ownsRow_nil _ _ _ _
              have HRO := Lib.hid (RowsI.nil (w := w) (HI2.out.below.trans ((below_al wc (.cells #[.slice a1 x.length c1] 34)).mono HI2.out.below.size)))
              have HXO := Lib.hid (RowC.one (c := c1) (HX2.out.low (below_al wc (.cells #[.slice a1 x.length c1] 34))))
              have hsz := HI2.out.below.size
              clear hown0
              go_wp2_with (at_builtin; refine wpList_append_own_at _ rfl (.tmp 38) (.tmp 40) 27 rfl w.heap.size 34 j0 (.slice none 0 0) 1 24 Tryz.underlying27 hjj jz0 jz1 jz2 rfl (by decide) _ 0 [] rfl HRO.out.out ⟨wc.heap.size, 0, none⟩ 1 1 [.slice a1 x.length c1] rfl ?q1 ?q2 ?q3 ?q4 ?q5 ?q6 ?_)
              case q3 => simp [Value.oneCell']
              case q4 => unfold maxLen; omega
              case q6 => first | omega | (simp; omega)
              intro v3 w3 hown3 hgrow3 _ hat3
              have HR3 := Lib.hid (HRO.out.app HXO.out hown3 hgrow3 (by simpa using hat3))
              clear hown3 hgrow3 hat3 HRO HXO
              go_wp2_with (at_builtin; refine append_none_at rfl (.tmp 42) (.tmp 45) 27 rfl w.heap.size 34 j0 1 Tryz.underlying27 hjj _ _ _ rfl HR3.out.out rfl ?_)
              go_roundw
              case rel => exact ⟨1, _, by omega, by go_num, by rw [HS.out, ho0]; exact HR3.out, fun h => absurd h (by omega)⟩
              case measure => simp [intOf]; omega
            · have hout : wc.ownsRow w.heap.size 34 1 (.slice va k vc) k xs := by have h := HI2.out.out; rw [HOL.out] at h; exact h
              obtain ⟨g, rfl⟩ := own_form hout (by omega)
              have hown0 : wc.ownsRow w.heap.size 34 1 (.slice none 0 0) 0 [] := World.ownsRow_nil _ _ _ _
              have hcap := own_cap hout
              have hcap2 : (k : Int) ≤ (vc : Int) := by omega
              have HOUT := Lib.hid hout
              clear hout
              go_wp2_with (at_builtin; refine wpList_append_own_at _ rfl (.tmp 33) (.tmp 36) 27 rfl w.heap.size 34 j0 (.slice none 0 0) 1 24 Tryz.underlying27 hjj jz0 jz1 jz2 rfl (by decide) _ 0 [] rfl hown0 ⟨g, 0, none⟩ j vc (xs.take j) rfl ?p1 ?p2 ?p3 ?p4 ?p5 ?p6 ?_)
              case p1 => rw [List.length_take]; omega
              case p2 =>
                intro i u hu
                rw [List.getElem?_take] at hu
                split at hu
                · rw [Addr.add_mid, Nat.zero_add]
                  exact own_cell HOUT.out hu
                · cases hu
              case p3 => exact fun u hu => HI2.out.st.oneCell (by rw [HOL.out]; exact hxl) u (List.take_subset _ _ hu)
              case p4 => unfold maxLen; omega
              case p5 => omega
              case p6 => exact HI2.out.below.size
              intro v2 w2 hown2 hgrow2 _ hat2
              have htl : (o.take j).length = j := by rw [List.length_take, HOL.out]; omega
              have HR2 := Lib.hid ((RowsI.nil (w := w) HI2.out.below).app (HI2.out.st.none_of.take j) (by rw [htl]; simpa using hown2) hgrow2 hat2)
              have HRC2 := Lib.hid (RowC.grown (v := .slice none 0 0) HI2.out.st.none_of hgrow2 hat2)
              have HX3 := Lib.hid (RowC.grown (v := .slice none 0 0) (RowC.one (c := c1) HX2.out) hgrow2 hat2)
              have HO2 := Lib.hid (HOUT.out.kept hgrow2 (.inr (by simp [Value.ownBlock])))
              have HN2 := Lib.hid (show v2.ownBlock ≠ some g from fun e => by
                have hg := own_lt HOUT.out
                rcases hat2 with h | h
                · rw [h] at e; cases e
                · rw [h] at e; injection e with e; omega)
              have hsz := HR2.out.below.size
              clear hown2 hgrow2 hat2 HI2 HX2 HOUT hown0
              have HR2' := Lib.hid (HR2.out.low (below_al w2 (.cells #[.slice a1 x.length c1] 34)))
              go_wp2_with (at_builtin; (refine wpList_append_own_at _ rfl (.tmp 38) (.tmp 40) 27 rfl w.heap.size 34 j0 (.slice none 0 0) 1 24 Tryz.underlying27 hjj jz0 jz1 jz2 rfl (by decide) _ _ _ rfl HR2'.out.out ⟨w2.heap.size, 0, none⟩ 1 1 [.slice a1 x.length c1] rfl ?s1 ?s2 ?s3 ?s4 ?s5 ?s6 ?_))
              case s1 => rfl
              case s2 => exact cell_one_new _ _ _
              case s3 => simp [Value.oneCell']
              case s4 => rw [List.nil_append, htl]; unfold maxLen; omega
              case s5 => rw [List.nil_append, htl]; omega
              case s6 => simp; omega
              intro v3 w3 hown3 hgrow3 _ hat3
              have hat3' : v3.ownBlock = v2.ownBlock ∨ v3.ownBlock = some (w2.alloc (.cells #[.slice a1 x.length c1] 34)).heap.size := by simpa using hat3
              have HR3 := Lib.hid (HR2'.out.app (HX3.out.low (below_al w2 _)) (by rw [List.nil_append, htl]; exact hown3) hgrow3 hat3')
              have HRC3 := Lib.hid ((HRC2.out.low (below_al w2 (.cells #[.slice a1 x.length c1] 34))).grown hgrow3 hat3')
              have HO3 := Lib.hid ((own_below HO2.out (below_al w2 (.cells #[.slice a1 x.length c1] 34)) (Nat.le_refl _)).kept hgrow3 (.inr (fun e => HN2.out e.symm)))
              have hsz3 := HR3.out.below.size
              have hcap4 : (j : Int) ≤ (vc : Int) := by omega
              clear hown3 hgrow3 hat3 hat3' HR2 HR2' HRC2 HX3 HO2 HN2
              obtain ⟨q, hif, hq⟩ : ∃ q : Nat, (if vc = j then (some ⟨g, 0, none⟩ : Option Addr) else some ⟨g, j, none⟩) = some ⟨g, q, none⟩ ∧ (j < k → q = j) := by
                by_cases hvj : vc = j
                · exact ⟨0, by rw [if_pos hvj], fun h => by omega⟩
                · exact ⟨j, by rw [if_neg hvj], fun _ => rfl⟩
              have HQ := Lib.hid hq
              clear hq
              go_wp2_with (at_builtin; refine wpList_append_own_at _ rfl (.tmp 42) (.tmp 45) 27 rfl w.heap.size 34 j0 (.slice none 0 0) 1 24 Tryz.underlying27 hjj jz0 jz1 jz2 rfl (by decide) _ _ _ rfl HR3.out.out ⟨g, q, none⟩ (k - j) (vc - j) (xs.drop j) rfl ?r1 ?r2 ?r3 ?r4 ?r5 ?r6 ?_)
              case r1 => rw [List.length_drop]; omega
              case r2 =>
                intro i u hu
                rw [List.getElem?_drop] at hu
                have hlt' := (List.getElem?_eq_some_iff.1 hu).1
                rw [Addr.add_mid, HQ.out (by omega)]
                exact own_cell HO3.out hu
              case r3 => exact fun u hu => HRC3.out.oneCell (by rw [HOL.out]; exact hxl) u (List.drop_subset _ _ hu)
              case r4 => rw [List.nil_append, List.length_append, htl]; unfold maxLen; simp; omega
              case r5 => rw [List.nil_append, List.length_append, htl]; simp; omega
              case r6 => exact hsz3
              intro v4 w4 hown4 hgrow4 _ hat4
              have hdl : (o.drop j).length = k - j := by rw [List.length_drop, HOL.out]
              have HR4 := Lib.hid (HR3.out.app (HRC3.out.drop j) (by rw [hdl, List.nil_append, List.nil_append, List.length_append, htl, List.append_assoc]; exact hown4) hgrow4 hat4)
              clear hown4 hgrow4 hat4 HR3 HRC3 HO3
              go_wp2_with fail
              go_roundw
              case rel => exact ⟨k + 1, _, by omega, by go_num, by rw [HS.out, HIN.out]; exact HR4.out, fun h => absurd h (by omega)⟩
              case measure => simp [intOf]; omega
    · obtain rfl : k = ms.length := by omega
      rw [List.take_length] at hI
      obtain ⟨va, vc, rfl⟩ := own_slice hI.out
      have HI := Lib.hid hI.givesB
      clear hI
      go_wp2_with fail
      go_ret
      exact HI.out

end Go.Proofs.YtigaklppdlknkaaGreat
