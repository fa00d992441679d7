/- Least: its lists are its own, each in another block than the list of them; stores into them. -/
import Derived.Test.YtgoidphamkpmdaaLst
import Derived.Test.YtgoidphamkpmdaaRls
set_option linter.unusedVariables false
set_option linter.unusedSimpArgs false
namespace Go.Proofs.Ytgoidphamkpmdaa
open Go.RowKit Tinker

/-- Own lists of numbers in memory, each apart from the block of the slices. -/
def RowsO (base : Nat) (w : World) (g : Option Addr) (fs : List (List Int)) : Prop :=
  fs = [] ∨ ∃ (M : Nat) (xs : List Value) (t : TypeId), g = some ⟨M, 0, none⟩ ∧ base ≤ M ∧ w.heap[M]? = some (.cells xs.toArray t (0, 0)) ∧ RowC w base (some M) fs xs
theorem RowsO.at_ {base : Nat} {w : World} {g : Option Addr} {fs : List (List Int)} (h : RowsO base w g fs) : RowsAt w g fs := by
  rcases h with h | ⟨M, xs, t, e, hb, hM, hc⟩
  · exact .inl h
  · exact .inr ⟨M, 0, e, hp_lt hM, fun j zs hj => by
      obtain ⟨a, c, h0, h1⟩ := hc j zs hj
      exact ⟨a, c, by rw [Nat.zero_add]; exact hp_cell hM (by simpa using h0), h1.at_⟩⟩
theorem RowC.wide {W : World} {base base' : Nat} {o : Option Nat} {fs : List (List Int)} {xs : List Value} (h : RowC W base o fs xs) (hb : base' ≤ base) : RowC W base' o fs xs := fun k zs hk => by
  obtain ⟨a, c, h1, h2⟩ := h k zs hk
  exact ⟨a, c, h1, h2.wide hb⟩
theorem RowsO.wide {base base' : Nat} {w : World} {g : Option Addr} {fs : List (List Int)} (h : RowsO base w g fs) (hb : base' ≤ base) : RowsO base' w g fs := by
  rcases h with h | ⟨M, xs, t, e, h1, hM, hc⟩
  · exact .inl h
  · exact .inr ⟨M, xs, t, e, Nat.le_trans hb h1, hM, hc.wide hb⟩
theorem RowsO.below {base : Nat} {w w' : World} {g : Option Addr} {fs : List (List Int)} (h : RowsO base w g fs) (hb : Below w.heap.size w w') : RowsO base w' g fs := by
  rcases h with h | ⟨M, xs, t, e, h1, hM, hc⟩
  · exact .inl h
  · exact .inr ⟨M, xs, t, e, h1, hp_below hM hb (hp_lt hM), hc.low hb⟩
theorem TabI.atO {M : Nat} {rs : List (List Int)} {n : Nat} {xs : List Value} {w W : World} (h : TabI M rs n xs w W) : RowsO w.heap.size W (some ⟨M, 0, none⟩) rs :=
  .inr ⟨M, xs, _, rfl, h.hM, h.bm, h.st⟩
def GivesRowsO (fs : List (List Int)) (w : World) (e : Ending) (w' : World) : Prop :=
  ∃ a cap, e = .returned (.slice a fs.length cap) ∧ RowsO w.heap.size w' a fs ∧ Below w.heap.size w w'
def GivesRowsOE (fs : List (List Int)) (c : Int) (w : World) (e : Ending) (w' : World) : Prop :=
  ∃ a cap, e = .returned (.tuple #[.slice a fs.length cap, .int .i64 c]) ∧ RowsO w.heap.size w' a fs ∧ Below w.heap.size w w'

set_option maxRecDepth 100000 in
set_option maxHeartbeats 1000000 in
theorem family_own (a : Option Addr) (cap : Nat) (ms : List Nat) (w : World) (hf : MskAt w a ms) (hv : ∀ m ∈ ms, m < 256) (hm : ms.length ≤ 1000) :
    Calls Try.prog 66 #[.slice a ms.length cap] w (GivesRowsO (ms.map numsM) w) := by
  have hmk := mkRows ms.length hm
  have HV := Lib.hid hv
  clear hv
  go_enter Try.func66, Try.ntmps66
  go_wp2_with fail
  go_loopw [11] (fun s11 wr => ∃ (k : Nat) (xs : List Value), k ≤ ms.length ∧ s11 = .int .i64 k ∧ TabI w.heap.size ((ms.take k).map numsM) ms.length xs w wr) (fun s11 _ => ms.length - (intOf s11).toNat)
  case atStart => exact ⟨0, _, Nat.zero_le _, rfl, tabI_new w ms.length⟩
  case round =>
    obtain ⟨k, xs, hk, rfl, hI⟩ := hrel
    by_cases hlt : k < ms.length
    · obtain ⟨b, off, m, rfl, hlb, hs, h0⟩ := (hf.below hI.below (Nat.le_refl _)).at_ hlt
      have HS := Lib.hid (map_take_snoc numsM hs)
      have HM := Lib.hid (numbers_any m (HV.out m (mem_of_get hs)) wr)
      have HTL := Lib.hid (show ((ms.take k).map numsM).length = k by simp; omega)
      have HL := Lib.hid (show w.heap.size < wr.heap.size from hp_lt hI.bm)
      have HI := Lib.hid hI
      clear hf hs hI
      go_wp2_with fail
      refine HM.out.mono ?_
      rintro e w1 ⟨a1, c1, rfl, ho, hB1⟩
      have hI2 := HI.out.low hB1
      obtain ⟨v, m1⟩ := hI2.cell hlt
      have m2 := hp_free hI2.bm k
      have hOL := (ownL_off (ownL_of ho) HL.out).wide (Nat.le_of_lt HL.out)
      have hP := hI2.put (c := c1) (by rw [HTL.out]; exact hlt) hOL
      rw [HTL.out, ← HS.out] at hP
      have HP := Lib.hid hP
      clear hP hOL hI2 ho hB1 HI
      go_wp2_with fail
      go_roundw
      case rel => exact ⟨k + 1, _, by omega, by go_num, HP.out⟩
      case measure => simp [intOf]; omega
    · obtain rfl : k = ms.length := by omega
      rw [List.take_length] at hI
      have HI := Lib.hid hI
      clear hI
      go_wp2_with fail
      go_ret
      refine ⟨some ⟨w.heap.size, 0, none⟩, ms.length, by rw [List.length_map]; rfl, HI.out.atO, HI.out.below⟩

set_option maxRecDepth 100000 in
set_option maxHeartbeats 1000000 in
theorem Least_own (a : Option Addr) (cap : Nat) (f : List (List Int)) (w : World) (hf : RowsAt w a f) (hm : ∀ z ∈ f, z.length ≤ 1000) :
    Calls Try.prog 24 #[.slice a f.length cap] w (GivesRowsOE (lstL f) (vfam f) w) := by
  have HV := Lib.hid (validateF_any a cap f w hf hm)
  by_cases hz : vfam f = 0
  · obtain ⟨h70, hs⟩ := vfam_ok hz
    have H1 := Lib.hid (fun w h => masksOf_any a cap f w h hs (by omega))
    have H2 := Lib.hid (fun (w1 : World) (b : Option Addr) (c : Nat) (h : MskAt w1 b (fmM f)) (w2 : World) (e2 : w2 = w1.alloc (.cells #[.slice b (fmM f).length c] 79)) =>
      show Calls Try.prog 70 #[.func (.func 71) #[] #[.pointer (some ⟨w1.heap.size, 0, none⟩)]] w2 (GivesMsk (leastM (fmM f)) w2) by
        have hbx : w2.heap[w1.heap.size]? = some (.cells #[.slice b (fmM f).length c] 79 (0, 0)) := by rw [e2]; exact hp_new rfl
        have ht2 : MskAt w2 b (fmM f) := by rw [e2]; exact h.below ((Below.refl _ _).alloc (Nat.le_refl _) _) (Nat.le_refl _)
        exact find_L _ _ w2 (fun m W hm hB => clos_least w2 w1.heap.size b c (fmM f) (hp_cell hbx rfl) (hp_lt hbx) ht2 (fmM_lt hs) (by rw [fmM_len]; omega) m W hm hB))
    have H3 := Lib.hid (fun b c w h => family_own b c (leastM (fmM f)) w h (fun m hm => least_lt hm) (by have := least_len (f := fmM f) (fmM_lt hs); omega))
    rw [lstL_ok hz, hz]
    rw [hz] at HV
    generalize leastM (fmM f) = Z at H2 H3 ⊢
    have HR := Lib.hid hf
    clear hz hs hf hm
    go_enter Try.func24, Try.ntmps24
    go_wp2_with fail
    refine HV.out.mono ?_
    rintro e w1 ⟨rfl, hB⟩
    have HB := Lib.hid hB
    clear hB
    go_wp2_with fail
    refine (H1.out _ (HR.out.below HB.out (Nat.le_refl _))).mono ?_
    rintro e w2 ⟨a2, c2, rfl, h2, hB2⟩
    have HM2 := Lib.hid h2
    have HB2 := Lib.hid (HB.out.trans (hB2.mono HB.out.size))
    clear h2 hB2
    go_wp2_with fail
    refine (H2.out _ _ _ HM2.out _ rfl).mono ?_
    rintro e w3 ⟨a3, c3, rfl, h3, hB3⟩
    have HM3 := Lib.hid h3
    have HB3 := Lib.hid ((HB2.out.alloc HB2.out.size _).trans (hB3.mono (by have := HB2.out.size; simp; omega)))
    clear h3 hB3
    go_wp2_with fail
    refine (H3.out _ _ _ HM3.out).mono ?_
    rintro e w4 ⟨a4, c4, rfl, h4, hB4⟩
    have HM4 := Lib.hid (h4.wide HB3.out.size)
    have HB4 := Lib.hid (HB3.out.trans (hB4.mono HB3.out.size))
    clear h4 hB4
    go_wp2_with fail
    go_ret2
    exact ⟨a4, c4, by rw [List.length_map]; rfl, HM4.out, HB4.out⟩
  · rw [lstL_no hz]
    generalize vfam f = c at HV hz
    have hz1 : (c != 0) = true := by simpa using hz
    have hz2 : (c == 0) = false := by simpa using hz
    clear hz hf hm
    go_enter Try.func24, Try.ntmps24
    go_wp2_with fail
    refine HV.out.mono ?_
    rintro e w1 ⟨rfl, hB⟩
    go_wp2_with fail
    go_ret2
    exact ⟨none, 0, rfl, .inl rfl, hB⟩

/-- What holds while numbers are written into own lists: the block of the slices stands as it was, the lists' blocks hold as many cells. -/
structure PokI (base M : Nat) (xs : List Value) (t : TypeId) (ns : List Nat) (w W : World) : Prop where
  hM : base ≤ M
  bm : W.heap[M]? = some (.cells xs.toArray t (0, 0))
  st : ∀ (k n : Nat), ns[k]? = some n → ∃ a c, xs[k]? = some (.slice a n c) ∧ (n = 0 ∨ ∃ (b : Nat) (cs : Array Value) (t' : TypeId), a = some ⟨b, 0, none⟩ ∧ base ≤ b ∧ b ≠ M ∧ W.heap[b]? = some (.cells cs t' (0, 0)) ∧ n ≤ cs.size)
  below : Below base w W
theorem RowsO.poke {base : Nat} {w W : World} {M : Nat} {xs : List Value} {t : TypeId} {fs : List (List Int)} (hb : base ≤ M) (hM : W.heap[M]? = some (.cells xs.toArray t (0, 0))) (hc : RowC W base (some M) fs xs) (hB : Below base w W) : PokI base M xs t (fs.map List.length) w W :=
  ⟨hb, hM, fun k n hk => by
    rw [List.getElem?_map] at hk
    obtain ⟨zs, hz, rfl⟩ := Option.map_eq_some_iff.1 hk
    obtain ⟨a, c, h1, h2⟩ := hc k zs hz
    refine ⟨a, c, h1, ?_⟩
    rcases h2 with h2 | ⟨b, h3, h4, h5, cs, t', h6, h7⟩
    · exact .inl (by rw [h2]; rfl)
    · rcases Nat.eq_zero_or_pos zs.length with h0 | h0
      · exact .inl h0
      · refine .inr ⟨b, cs, t', h3, h4, fun e => h5 (by rw [e]), h6, ?_⟩
        obtain ⟨z, hz⟩ := get_of_lt (show zs.length - 1 < zs.length by omega)
        have := h7 _ z hz
        have h8 : zs.length - 1 < cs.size := by
          by_cases h : zs.length - 1 < cs.size
          · exact h
          · rw [Array.getElem?_eq_none (by omega)] at this; cases this
        omega, hB⟩
theorem PokI.put {base M : Nat} {xs : List Value} {t : TypeId} {ns : List Nat} {w W : World} (h : PokI base M xs t ns w W) {b : Nat} (hb : base ≤ b) (hne : b ≠ M) (j : Nat) (v : Value) : PokI base M xs t ns w (W.setCell ⟨b, j, none⟩ v) :=
  ⟨h.hM, hp_set h.bm (p := ⟨b, j, none⟩) (fun e => hne e.symm) v, fun k n hk => by
    obtain ⟨a, c, h1, h2⟩ := h.st k n hk
    refine ⟨a, c, h1, ?_⟩
    rcases h2 with h2 | ⟨b', cs, t', h3, h4, h5, h6, h7⟩
    · exact .inl h2
    · by_cases e : b' = b
      · subst e
        exact .inr ⟨b', _, t', h3, h4, h5, hp_put h6 j v, by simpa using h7⟩
      · exact .inr ⟨b', cs, t', h3, h4, h5, hp_set h6 (p := ⟨b, j, none⟩) e v, h7⟩, h.below.setCell (p := ⟨b, j, none⟩) hb v⟩
theorem PokI.low {base M : Nat} {xs : List Value} {t : TypeId} {ns : List Nat} {w W W' : World} (h : PokI base M xs t ns w W) (hb : Below W.heap.size W W') (hs : base ≤ W.heap.size) : PokI base M xs t ns w W' :=
  ⟨h.hM, hp_below h.bm hb (hp_lt h.bm), fun k n hk => by
    obtain ⟨a, c, h1, h2⟩ := h.st k n hk
    refine ⟨a, c, h1, ?_⟩
    rcases h2 with h2 | ⟨b', cs, t', h3, h4, h5, h6, h7⟩
    · exact .inl h2
    · exact .inr ⟨b', cs, t', h3, h4, h5, hp_below h6 hb (hp_lt h6), h7⟩, h.below.trans (hb.mono hs)⟩

end Go.Proofs.Ytgoidphamkpmdaa
