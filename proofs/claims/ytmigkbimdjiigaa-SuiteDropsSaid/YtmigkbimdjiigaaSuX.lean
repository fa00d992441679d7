/- Several texts in one. -/
import Derived.Test.YtmigkbimdjiigaaSuR
import Derived.Test.YtmigkbimdjiigaaSuE
import Derived.Test.YtmigkbimdjiigaaBlD
/- Suites of the code: rows that are picked, a suite without a row: contracts. -/
set_option linter.unusedVariables false
set_option linter.unusedSimpArgs false
namespace Tinker
/-- Some rows of a suite. -/
def pickL (t : List (List Int)) (rows : List Int) : List (List Int) := rows.map fun r => t.getD r.toNat []
/-- A suite without a row. -/
def wouL (t : List (List Int)) (r : Int) : List (List Int) := t.take r.toNat ++ t.drop (r.toNat + 1)
def wouE (t : List (List Int)) (r : Int) : Int := if vsu t = 0 then (if 0 ≤ r ∧ r < (t.length : Int) then 0 else 4) else vsu t
theorem pick_take {t : List (List Int)} {rows : List Int} {k : Nat} {r : Int} (h : rows[k]? = some r) : pickL t (rows.take (k + 1)) = pickL t (rows.take k) ++ [t.getD r.toNat []] := by
  unfold pickL
  rw [List.take_add_one, h, List.map_append]
  rfl
theorem pick_len (t : List (List Int)) (rows : List Int) : (pickL t rows).length = rows.length := by simp [pickL]
theorem range_wou (r : Nat) : ∀ (n : Nat), ((List.range n).filter fun i => i != r) = (List.range n).take r ++ (List.range n).drop (r + 1)
  | 0 => by simp
  | n + 1 => by
    rw [List.range_succ, List.filter_append, range_wou r n, List.take_append, List.drop_append, List.length_range]
    rcases Nat.lt_trichotomy n r with h | h | h
    · have e1 : ([n].filter fun i => i != r) = [n] := by simp; omega
      rw [e1, List.drop_of_length_le (by simp; omega), List.take_of_length_le (l := [n]) (by simp; omega), List.drop_of_length_le (l := [n]) (by simp; omega)]
      simp
    · subst h
      have e1 : ([n].filter fun i => i != n) = [] := by simp
      rw [e1, Nat.sub_self, show n + 1 - n = 1 by omega, List.drop_of_length_le (l := List.range n) (by simp)]
      simp
    · have e1 : ([n].filter fun i => i != r) = [n] := by simp; omega
      rw [e1, show r - n = 0 by omega, show r + 1 - n = 0 by omega]
      simp
theorem pick_wou {t : List (List Int)} {r : Nat} (hl : t.length ≤ 8) (hr : r < t.length) : pickL t (numsK (difK (2 ^ t.length - 1) (2 ^ r))) = wouL t r := by
  have h1 : numsK (difK (2 ^ t.length - 1) (2 ^ r)) = ((List.range t.length).filter fun i => i != r).map fun i : Nat => (i : Int) := by
    refine pair_unique (numsK_pair _) (filt_pair _ _) fun x => ?_
    rw [numsK_mem]
    simp only [List.mem_map, List.mem_filter, List.mem_range]
    constructor
    · rintro ⟨n, rfl, h1, h2⟩
      rw [difK_bit, Nat.testBit_two_pow_sub_one, Nat.testBit_two_pow, Bool.and_eq_true, decide_eq_true_eq, Bool.not_eq_true', decide_eq_false_iff_not] at h2
      exact ⟨n, ⟨h2.1, by simpa using fun e => h2.2 e.symm⟩, rfl⟩
    · rintro ⟨n, ⟨h1, h2⟩, rfl⟩
      have h3 : n ≠ r := by simpa using h2
      refine ⟨n, rfl, by omega, ?_⟩
      rw [difK_bit, Nat.testBit_two_pow_sub_one, Nat.testBit_two_pow, decide_eq_true h1, decide_eq_false fun e => h3 e.symm]
      rfl
  have h2 : ((List.range t.length).map fun i => t.getD i []) = t := by
    refine List.ext_getElem? fun i => ?_
    rw [List.getElem?_map]
    rcases Nat.lt_or_ge i t.length with h | h
    · rw [List.getElem?_range h]
      obtain ⟨z, hz⟩ := get_of_lt h
      rw [hz, Option.map_some, getD_of_get hz]
    · rw [List.getElem?_eq_none (by simpa using h), List.getElem?_eq_none h]; rfl
  unfold pickL wouL
  rw [h1, range_wou, List.map_map, List.map_append]
  have h3 : ((fun r : Int => t.getD r.toNat []) ∘ fun i : Nat => (i : Int)) = fun i => t.getD i [] := rfl
  rw [h3, List.map_take, List.map_drop, h2]
  rfl
end Tinker
namespace Go.Proofs.Ytmigkbimdjiigaa
open Go.RowKit Tinker

theorem RowC.low8 {W W' : World} {base : Nat} {o : Option Nat} {gs : List (List Int)} {ys : List Value} (h : RowC W base o gs ys) (hb : Below W.heap.size W W') : RowC W' base o gs ys := h.same fun b hlt _ _ => hb.block b hlt
theorem RowC.app8 {W : World} {base : Nat} {o : Option Nat} {fs gs : List (List Int)} {xs ys : List Value} (h1 : RowC W base o fs xs) (h2 : RowC W base o gs ys) (hl : xs.length = fs.length) : RowC W base o (fs ++ gs) (xs ++ ys) := fun k zs hk => by
  rcases Nat.lt_or_ge k fs.length with hlt | hge
  · rw [List.getElem?_append_left hlt] at hk
    obtain ⟨a, c, h, h'⟩ := h1 k zs hk
    exact ⟨a, c, by rw [List.getElem?_append_left (by omega)]; exact h, h'⟩
  · rw [List.getElem?_append_right hge] at hk
    obtain ⟨a, c, h, h'⟩ := h2 _ zs hk
    exact ⟨a, c, by rw [List.getElem?_append_right (by omega), hl]; exact h, h'⟩
theorem RowC.none_of8 {W : World} {base : Nat} {o : Option Nat} {fs : List (List Int)} {xs : List Value} (h : RowC W base o fs xs) : RowC W base none fs xs := fun k zs hk => by
  obtain ⟨a, c, h1, h2⟩ := h k zs hk
  exact ⟨a, c, h1, h2.free (fun b _ _ => by simp)⟩
theorem RowC.take8 {W : World} {base : Nat} {o : Option Nat} {fs : List (List Int)} {xs : List Value} (h : RowC W base o fs xs) (n : Nat) : RowC W base o (fs.take n) (xs.take n) := fun k zs hk => by
  rw [List.getElem?_take] at hk
  split at hk
  · obtain ⟨a, c, h1, h2⟩ := h k zs hk
    exact ⟨a, c, by rw [List.getElem?_take_of_lt (by assumption)]; exact h1, h2⟩
  · cases hk
theorem RowC.drop8 {W : World} {base : Nat} {o : Option Nat} {fs : List (List Int)} {xs : List Value} (h : RowC W base o fs xs) (n : Nat) : RowC W base o (fs.drop n) (xs.drop n) := fun k zs hk => by
  rw [List.getElem?_drop] at hk
  obtain ⟨a, c, h1, h2⟩ := h _ zs hk
  exact ⟨a, c, by rw [List.getElem?_drop]; exact h1, h2⟩
theorem RowC.oneCell8 {W : World} {base : Nat} {o : Option Nat} {fs : List (List Int)} {xs : List Value} (h : RowC W base o fs xs) (hl : xs.length = fs.length) : ∀ u ∈ xs, u.oneCell' = true := fun u hu => by
  obtain ⟨i, hi⟩ := List.getElem?_of_mem hu
  have hlt := (List.getElem?_eq_some_iff.1 hi).1
  obtain ⟨z, hz⟩ := get_of_lt (show i < fs.length by omega)
  obtain ⟨a, c, h1, _⟩ := h i z hz
  rw [hi] at h1
  injection h1 with h1
  subst h1
  rfl
/-- Own lists of numbers in memory, each apart from the block of the slices. -/
def RowsO8 (base : Nat) (w : World) (g : Option Addr) (fs : List (List Int)) : Prop :=
  fs = [] ∨ ∃ (M : Nat) (xs : List Value) (t : TypeId), g = some ⟨M, 0, none⟩ ∧ base ≤ M ∧ w.heap[M]? = some (.cells xs.toArray t (0, 0)) ∧ RowC w base (some M) fs xs
theorem RowsO8.at_ {base : Nat} {w : World} {g : Option Addr} {fs : List (List Int)} (h : RowsO8 base w g fs) : RowsAt w g fs := by
  rcases h with h | ⟨M, xs, t, e, hb, hM, hc⟩
  · exact .inl h
  · exact .inr ⟨M, 0, e, hp_lt hM, fun j zs hj => by
      obtain ⟨a, c, h0, h1⟩ := hc j zs hj
      exact ⟨a, c, by rw [Nat.zero_add]; exact hp_cell hM (by simpa using h0), h1.at_⟩⟩
theorem RowC.wide8 {W : World} {base base' : Nat} {o : Option Nat} {fs : List (List Int)} {xs : List Value} (h : RowC W base o fs xs) (hb : base' ≤ base) : RowC W base' o fs xs := fun k zs hk => by
  obtain ⟨a, c, h1, h2⟩ := h k zs hk
  exact ⟨a, c, h1, h2.wide hb⟩
theorem RowsO8.wide {base base' : Nat} {w : World} {g : Option Addr} {fs : List (List Int)} (h : RowsO8 base w g fs) (hb : base' ≤ base) : RowsO8 base' w g fs := by
  rcases h with h | ⟨M, xs, t, e, h1, hM, hc⟩
  · exact .inl h
  · exact .inr ⟨M, xs, t, e, Nat.le_trans hb h1, hM, hc.wide8 hb⟩
theorem RowsO8.below {base : Nat} {w w' : World} {g : Option Addr} {fs : List (List Int)} (h : RowsO8 base w g fs) (hb : Below w.heap.size w w') : RowsO8 base w' g fs := by
  rcases h with h | ⟨M, xs, t, e, h1, hM, hc⟩
  · exact .inl h
  · exact .inr ⟨M, xs, t, e, h1, hp_below hM hb (hp_lt hM), hc.low8 hb⟩
theorem TabI.at8 {M : Nat} {rs : List (List Int)} {n : Nat} {xs : List Value} {w W : World} (h : TabI M rs n xs w W) : RowsO8 w.heap.size W (some ⟨M, 0, none⟩) rs :=
  .inr ⟨M, xs, _, rfl, h.hM, h.bm, h.st⟩
def GivesRows8 (fs : List (List Int)) (w : World) (e : Ending) (w' : World) : Prop :=
  ∃ a cap, e = .returned (.slice a fs.length cap) ∧ RowsO8 w.heap.size w' a fs ∧ Below w.heap.size w w'
def GivesRows8E (fs : List (List Int)) (c : Int) (w : World) (e : Ending) (w' : World) : Prop :=
  ∃ a cap, e = .returned (.tuple #[.slice a fs.length cap, .int .i64 c]) ∧ RowsO8 w.heap.size w' a fs ∧ Below w.heap.size w w'

/-- What holds while numbers are written into own lists: the block of the slices stands as it was, the lists' blocks hold as many cells. -/
structure PokI8 (base M : Nat) (xs : List Value) (t : TypeId) (ns : List Nat) (w W : World) : Prop where
  hM : base ≤ M
  bm : W.heap[M]? = some (.cells xs.toArray t (0, 0))
  st : ∀ (k n : Nat), ns[k]? = some n → ∃ a c, xs[k]? = some (.slice a n c) ∧ (n = 0 ∨ ∃ (b : Nat) (cs : Array Value) (t' : TypeId), a = some ⟨b, 0, none⟩ ∧ base ≤ b ∧ b ≠ M ∧ W.heap[b]? = some (.cells cs t' (0, 0)) ∧ n ≤ cs.size)
  below : Below base w W
theorem RowsO8.poke {base : Nat} {w W : World} {M : Nat} {xs : List Value} {t : TypeId} {fs : List (List Int)} (hb : base ≤ M) (hM : W.heap[M]? = some (.cells xs.toArray t (0, 0))) (hc : RowC W base (some M) fs xs) (hB : Below base w W) : PokI8 base M xs t (fs.map List.length) w W :=
  ⟨hb, hM, fun k n hk => by
    rw [List.getElem?_map] at hk
    obtain ⟨zs, hz, rfl⟩ := Option.map_eq_some_iff.1 hk
    obtain ⟨a, c, h1, h2⟩ := hc k zs hz
    refine ⟨a, c, h1, ?_⟩
    rcases h2 with h2 | ⟨b, h3, h4, h5, cs, t', h6, h7⟩
    · exact .inl (by rw [h2]; rfl)
    · rcases Nat.eq_zero_or_pos zs.length with h0 | h0
      · exact .inl h0
      · refine .inr ⟨b, cs, t', h3, h4, fun e => h5 (by rw [e]), h6, ?_⟩
        obtain ⟨z, hz⟩ := get_of_lt (show zs.length - 1 < zs.length by omega)
        have := h7 _ z hz
        have h8 : zs.length - 1 < cs.size := by
          by_cases h : zs.length - 1 < cs.size
          · exact h
          · rw [Array.getElem?_eq_none (by omega)] at this; cases this
        omega, hB⟩
theorem PokI8.put {base M : Nat} {xs : List Value} {t : TypeId} {ns : List Nat} {w W : World} (h : PokI8 base M xs t ns w W) {b : Nat} (hb : base ≤ b) (hne : b ≠ M) (j : Nat) (v : Value) : PokI8 base M xs t ns w (W.setCell ⟨b, j, none⟩ v) :=
  ⟨h.hM, hp_set h.bm (p := ⟨b, j, none⟩) (fun e => hne e.symm) v, fun k n hk => by
    obtain ⟨a, c, h1, h2⟩ := h.st k n hk
    refine ⟨a, c, h1, ?_⟩
    rcases h2 with h2 | ⟨b', cs, t', h3, h4, h5, h6, h7⟩
    · exact .inl h2
    · by_cases e : b' = b
      · subst e
        exact .inr ⟨b', _, t', h3, h4, h5, hp_put h6 j v, by simpa using h7⟩
      · exact .inr ⟨b', cs, t', h3, h4, h5, hp_set h6 (p := ⟨b, j, none⟩) e v, h7⟩, h.below.setCell (p := ⟨b, j, none⟩) hb v⟩
theorem PokI8.low {base M : Nat} {xs : List Value} {t : TypeId} {ns : List Nat} {w W W' : World} (h : PokI8 base M xs t ns w W) (hb : Below W.heap.size W W') (hs : base ≤ W.heap.size) : PokI8 base M xs t ns w W' :=
  ⟨h.hM, hp_below h.bm hb (hp_lt h.bm), fun k n hk => by
    obtain ⟨a, c, h1, h2⟩ := h.st k n hk
    refine ⟨a, c, h1, ?_⟩
    rcases h2 with h2 | ⟨b', cs, t', h3, h4, h5, h6, h7⟩
    · exact .inl h2
    · exact .inr ⟨b', cs, t', h3, h4, h5, hp_below h6 hb (hp_lt h6), h7⟩, h.below.trans (hb.mono hs)⟩

theorem RowsO8.pokZ {base : Nat} {w W : World} {a : Option Addr} {fs : List (List Int)} (h : RowsO8 base W a fs) (hB : Below base w W) :
    ∃ (M : Nat) (xs : List Value) (t : TypeId), (fs ≠ [] → a = some ⟨M, 0, none⟩) ∧ Below base w W ∧ (fs = [] ∨ PokI8 base M xs t (fs.map List.length) w W) := by
  rcases h with h | ⟨M, xs, t, e, hb, hM, hc⟩
  · exact ⟨0, [], 3, fun h1 => absurd h h1, hB, .inl h⟩
  · exact ⟨M, xs, t, fun _ => e, hB, .inr (RowsO8.poke hb hM hc hB)⟩
theorem cs_get8 {cs : Array Value} {m : Nat} (h : m < cs.size) : ∃ v, cs[m]? = some v := ⟨cs[m], by simp [h]⟩


set_option maxRecDepth 100000 in
set_option maxHeartbeats 1000000 in
theorem clone8_any (a : Option Addr) (cap : Nat) (zs : List Int) (w : World) (hp : IntsAt w a zs) (hm : zs.length ≤ 1000) :
    Calls Try.prog 121 #[.slice a zs.length cap] w (GivesInts zs w) := by
  obtain ⟨i0, hi, hz0, hz1, hz2⟩ := info_parts info_int
  cases a with
  | none =>
    have hps := hp.none
    subst hps
    have hnil := fun (w : World) => Lib.run_eql_slice_nil (P := Try.prog) w 23 3 none 0 cap 0 0 Try.underlying23
    clear hp hm
    go_enter Try.func121, Try.ntmps121
    go_wp2_with fail
    go_ret
    exact ⟨none, 0, rfl, World.ownsRow_nil _ _ _ _, Below.refl _ _⟩
  | some ad =>
    have HC := Lib.hid (hp.cells)
    have hnil := fun (w : World) => Lib.run_eql_slice_nil (P := Try.prog) w 23 3 (some ad) zs.length cap 0 0 Try.underlying23
    have hown := World.ownsRow_lit (base := w.heap.size) (e := 3) (size := 1) w #[] 0 (Nat.le_refl _) (by simp [maxLen]) (by simp)
    clear hp
    have HL := Lib.hid (show (zs.map (Value.int .i64)).length = zs.length * 1 by rw [List.length_map, Nat.mul_one])
    have H1 := Lib.hid (show ∀ u ∈ zs.map (Value.int .i64), u.oneCell' = true from fun u hu => by obtain ⟨x, _, rfl⟩ := List.mem_map.1 hu; rfl)
    generalize hvs : zs.map (Value.int .i64) = vs at HC HL H1
    have HVS := Lib.hid hvs
    clear hvs
    go_enter Try.func121, Try.ntmps121
    go_wp2_with (at_builtin; (refine wpList_append_own _ rfl (.tmp 5) (.tmp 6) 23 rfl w.heap.size 3 i0 (.int .i64 0) 1 8 Try.underlying23 hi hz0 hz1 hz2 rfl (by decide) _ 0 [] rfl hown ad zs.length cap vs rfl ?c1 ?c2 ?c3 ?c4 ?c5 ?c6 ?_))
    case c1 => first | exact HL.out | (have h9 := HL.out; omega)
    case c2 => intro j u hu; exact cell_alloc_keep (HC.out j u hu)
    case c3 => exact H1.out
    case c4 => simp [maxLen]; omega
    case c5 => omega
    intro v' w1 hown1 hgrow _
    have hB : Below w.heap.size w w1 := ((Below.refl _ _).alloc (Nat.le_refl _) _).grown hgrow (by simp) (by rintro k hk; simp [Value.ownBlock] at hk; omega)
    have HO := Lib.hid hown1
    clear hown1 hown hgrow
    go_wp2
    go_ret
    obtain ⟨b, k, rfl⟩ := own_slice HO.out
    have h := HO.out
    rw [← HVS.out] at h
    exact ⟨b, k, rfl, h, hB⟩

set_option maxRecDepth 100000 in
set_option maxHeartbeats 1000000 in
theorem sPick_any (a b : Option Addr) (ca cap : Nat) (t : List (List Int)) (rows : List Int) (w : World) (ht : RowsAt w a t) (hf : IntsAt w b rows) (hv : ∀ x ∈ rows, 0 ≤ x ∧ x < (t.length : Int)) (hm : rows.length ≤ 1000) (hz : ∀ z ∈ t, z.length ≤ 1000) (hlt8 : t.length ≤ 1000) :
    Calls Try.prog 103 #[.slice a t.length ca, .slice b rows.length cap] w (GivesRows8 (pickL t rows) w) := by
  have hmk := mkRows rows.length hm
  have HV := Lib.hid hv
  have HZ := Lib.hid hz
  have HT := Lib.hid ht
  clear hv hz ht
  go_enter Try.func103, Try.ntmps103
  go_wp2_with fail
  go_loopw [13] (fun s13 wr => ∃ (k : Nat) (xs : List Value), k ≤ rows.length ∧ s13 = .int .i64 k ∧ TabI w.heap.size (pickL t (rows.take k)) rows.length xs w wr) (fun s13 _ => rows.length - (intOf s13).toNat)
  case atStart => exact ⟨0, _, Nat.zero_le _, rfl, tabI_new w rows.length⟩
  case round =>
    obtain ⟨k, xs, hk, rfl, hI⟩ := hrel
    by_cases hlt : k < rows.length
    · obtain ⟨b2, off, x, rfl, hlb, hs, h0⟩ := (hf.below hI.below (Nat.le_refl _)).at_ hlt
      obtain ⟨x0, x1⟩ := HV.out x (mem_of_get hs)
      obtain ⟨r, rfl⟩ : ∃ r : Nat, x = (r : Int) := ⟨x.toNat, by omega⟩
      obtain ⟨b3, off3, z, a3, c3, rfl, hlb3, hzt, d3, hi3⟩ := (HT.out.below hI.below (Nat.le_refl _)).at_ (show r < t.length by omega)
      have HS := Lib.hid ((pick_take (t := t) hs).trans (by rw [show ((r : Int)).toNat = r from rfl, getD_of_get hzt]))
      have HM := Lib.hid (clone8_any a3 c3 z wr hi3 (HZ.out z (mem_of_get hzt)))
      have HTL := Lib.hid (show (pickL t (rows.take k)).length = k by rw [pick_len, List.length_take]; omega)
      have HL := Lib.hid (show w.heap.size < wr.heap.size from hp_lt hI.bm)
      have HI := Lib.hid hI
      clear hf hs hI hzt hi3
      go_wp2_with fail
      refine HM.out.mono ?_
      rintro e w1 ⟨a1, c1, rfl, ho, hB1⟩
      have hI2 := HI.out.low hB1
      obtain ⟨v, m1⟩ := hI2.cell hlt
      have m2 := hp_free hI2.bm k
      have hOL := (ownL_off (ownL_of ho) HL.out).wide (Nat.le_of_lt HL.out)
      have hP := hI2.put (c := c1) (by rw [HTL.out]; exact hlt) hOL
      rw [HTL.out, ← HS.out] at hP
      have HP := Lib.hid hP
      clear hP hOL hI2 ho hB1 HI
      go_wp2_with fail
      go_roundw
      case rel => exact ⟨k + 1, _, by omega, by go_num, HP.out⟩
      case measure => simp [intOf]; omega
    · obtain rfl : k = rows.length := by omega
      rw [List.take_length] at hI
      have HI := Lib.hid hI
      clear hI
      go_wp2_with fail
      go_ret
      refine ⟨some ⟨w.heap.size, 0, none⟩, rows.length, by rw [pick_len]; rfl, HI.out.at8, HI.out.below⟩

end Go.Proofs.Ytmigkbimdjiigaa

/- Suites of the code: Without: contract. -/
set_option linter.unusedVariables false
set_option linter.unusedSimpArgs false
namespace Go.Proofs.Ytmigkbimdjiigaa
open Go.RowKit Tinker

set_option maxRecDepth 100000 in
set_option maxHeartbeats 1000000 in
theorem sWou_any (a : Option Addr) (ca : Nat) (t : List (List Int)) (r : Int) (w : World) (ht : RowsAt w a t) (hl : t.length ≤ 1000) (hm : ∀ z ∈ t, z.length ≤ 1000) :
    Calls Try.prog 50 #[.slice a t.length ca, .int .i64 r] w (GivesRows8E (if wouE t r = 0 then wouL t r else []) (wouE t r) w) := by
  have HV := Lib.hid (sValidate_any a ca t w ht hl hm)
  by_cases hv : vsu t = 0
  · have hl8 := (vsu_ok hv).1
    have HBW := Lib.hid (isBetween_any r 0 ((t.length : Int) - 1) w)
    rw [hv] at HV
    by_cases hr : 0 ≤ r ∧ r < (t.length : Int)
    · have hE : wouE t r = 0 := by unfold wouE; rw [if_pos hv, if_pos hr]
      rw [hE, if_pos rfl]
      have hb : btw r 0 ((t.length : Int) - 1) = true := btw_true.2 (by omega)
      rw [hb] at HBW
      obtain ⟨n, rfl⟩ : ∃ n : Nat, r = (n : Int) := ⟨r.toNat, by omega⟩
      have hn : n < t.length := by omega
      have hp1 : 2 ^ t.length ≤ 2 ^ 8 := Nat.pow_le_pow_right (by omega) hl8
      have hp2 := Nat.one_le_two_pow (n := t.length)
      have hfl : 2 ^ t.length - 1 < 1024 := by omega
      have H1 := Lib.hid (fun w => kBelow_any t.length (by omega) w)
      have H2 := Lib.hid (fun w => kWithout_any (2 ^ t.length - 1) n hfl (by omega) w)
      have H3 := Lib.hid (fun w => kNumbers_any (difK (2 ^ t.length - 1) (2 ^ n)) (difK_lt hfl) w)
      have hsz := szK_le (difK (2 ^ t.length - 1) (2 ^ n))
      unfold szK at hsz
      have hin : ∀ x ∈ numsK (difK (2 ^ t.length - 1) (2 ^ n)), 0 ≤ x ∧ x < (t.length : Int) := fun x hx => by
        obtain ⟨i, rfl, h1, h2⟩ := numsK_mem.1 hx
        rw [difK_bit, Nat.testBit_two_pow_sub_one, Bool.and_eq_true, decide_eq_true_eq] at h2
        omega
      have H4 := Lib.hid (fun b c w h h2 => by
        have h9 := sPick_any a b ca c t (numsK (difK (2 ^ t.length - 1) (2 ^ n))) w h h2 hin (by omega) hm hl
        rw [pick_wou hl8 hn] at h9
        exact h9)
      have HT := Lib.hid ht
      generalize difK (2 ^ t.length - 1) (2 ^ n) = D at *
      generalize 2 ^ t.length - 1 = F at *
      clear hv ht hl hm hb hr hn hp1 hp2 hfl hin hE
      go_enter Try.func50, Try.ntmps50
      go_wp2_with fail
      refine HV.out.mono ?_
      rintro e w' ⟨rfl, rfl⟩
      go_wp2_with fail
      refine HBW.out.mono ?_
      rintro e w' ⟨rfl, rfl⟩
      go_wp2_with fail
      refine (H1.out _).mono ?_
      rintro e w' ⟨rfl, rfl⟩
      go_wp2_with fail
      refine (H2.out _).mono ?_
      rintro e w' ⟨rfl, rfl⟩
      go_wp2_with fail
      refine (H3.out _).mono ?_
      rintro e w1 ⟨a1, c1, rfl, ho, hB⟩
      have HI := Lib.hid (ints_of_own ho).1
      have HB := Lib.hid hB
      clear ho hB
      go_wp2_with fail
      refine (H4.out _ _ _ (HT.out.below HB.out (Nat.le_refl _)) HI.out).mono ?_
      rintro e w2 ⟨a2, c2, rfl, ho, hB⟩
      have HO := Lib.hid (ho.wide HB.out.size)
      have HB2 := Lib.hid (HB.out.trans (hB.mono HB.out.size))
      clear ho hB
      go_wp2_with fail
      go_ret2
      exact ⟨a2, c2, rfl, HO.out, HB2.out⟩
    · have hE : wouE t r = 4 := by unfold wouE; rw [if_pos hv, if_neg hr]
      rw [hE, if_neg (by decide)]
      have hb : btw r 0 ((t.length : Int) - 1) = false := by
        rw [Bool.eq_false_iff]
        intro h
        have := btw_true.1 h
        omega
      rw [hb] at HBW
      clear hv ht hl hm hb hr hE
      go_enter Try.func50, Try.ntmps50
      go_wp2_with fail
      refine HV.out.mono ?_
      rintro e w' ⟨rfl, rfl⟩
      go_wp2_with fail
      refine HBW.out.mono ?_
      rintro e w' ⟨rfl, rfl⟩
      go_wp2_with fail
      go_ret2
      exact ⟨none, 0, rfl, .inl rfl, Below.refl _ _⟩
  · have hE : wouE t r = vsu t := by unfold wouE; rw [if_neg hv]
    rw [hE, if_neg hv]
    have hne : (vsu t != 0) = true := by simpa using hv
    clear hv ht hm hE
    go_enter Try.func50, Try.ntmps50
    go_wp2_with fail
    refine HV.out.mono ?_
    rintro e w' ⟨rfl, rfl⟩
    go_wp2_with fail
    go_ret2
    exact ⟨none, 0, rfl, .inl rfl, Below.refl _ _⟩

end Go.Proofs.Ytmigkbimdjiigaa
