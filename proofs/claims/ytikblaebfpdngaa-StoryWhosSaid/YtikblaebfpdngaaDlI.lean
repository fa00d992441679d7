/- Several texts in one. -/
import Derived.Test.YtikblaebfpdngaaPtM
import Derived.Test.YtikblaebfpdngaaOff
import Derived.Test.YtikblaebfpdngaaFxM
import Derived.Test.YtikblaebfpdngaaRunA
/- A row that is shortened in place: what a world keeps beside one block; what is left of a list; clear of a row's end. -/
set_option linter.unusedVariables false
set_option linter.unusedSimpArgs false
namespace Go.Proofs.Ytikblaebfpdngaa
open Go.RowKit Tinker


/-- The end of a row is cleared, and the row cut. -/
theorem own_clear {t e : TypeId} {z : Value} {k : Nat} (ht : Try.prog.underlying t = some (.slice e)) (hv : ∀ w, (zeroValue e).run Try.prog w = .ok z w) (hz : z.cells.size = k) (h1 : ∀ v ∈ z.cells, v.oneCell' = true)
    {W : World} {base g n c i : Nat} {xs : List Value} (h : W.ownsRow base e k (.slice (some ⟨g, 0, none⟩) n c) n xs) (hi : i < n) (hk : 0 < k) (c' : Nat) (ty : TypeId) :
    ∃ cur, (Builtin.clear_ #[t] ty #[.slice (some ⟨g, i * k, none⟩) (n - i) c']).run Try.prog W = .ok (.tuple #[]) (W.setRow g cur) ∧ (W.setRow g cur).ownsRow base e k (.slice (some ⟨g, 0, none⟩) i c) i (xs.take (i * k)) := by
  have hlen := h.1
  rcases h.2 with ⟨he, hn⟩ | ⟨g', cap, cur, he, hb, hg, hn, hm, hs, hx⟩
  · cases he
  · injection he with ha _ hc
    injection ha with ha
    injection ha with ha
    subst ha hc
    have hcs : ∀ v ∈ (Builtin.zeroCells z.cells (n - i)).toList, v.oneCell' = true := by
      intro v hv
      unfold Builtin.zeroCells at hv
      simp only [Array.toList_map, List.mem_map] at hv
      obtain ⟨j, _, rfl⟩ := hv
      have hj : j % z.cells.size < z.cells.size := Nat.mod_lt _ (by rw [hz]; exact hk)
      rw [getElem!_pos z.cells _ hj]
      exact h1 _ (Array.getElem_mem hj)
    have hzl : (Builtin.zeroCells z.cells (n - i)).toList.length = (n - i) * k := by
      unfold Builtin.zeroCells
      rw [Array.length_toList, Array.size_map, Array.size_range, hz]
    have hik : i * k + (n - i) * k = n * k := by rw [← Nat.add_mul, Nat.add_sub_cancel' (Nat.le_of_lt hi)]
    have hck : n * k ≤ c * k := Nat.mul_le_mul_right k hn
    have hst := run_storeCells_at (P := Try.prog) g (i * k) e (Builtin.zeroCells z.cells (n - i)).toList 0 cur W hg (by rw [hzl, hs]; omega) hcs
    obtain ⟨cs, hcs0⟩ : ∃ cs, cs = (cur.toList.take (i * k + 0) ++ (Builtin.zeroCells z.cells (n - i)).toList ++ cur.toList.drop (i * k + 0 + (Builtin.zeroCells z.cells (n - i)).toList.length)).toArray := ⟨_, rfl⟩
    rw [← hcs0] at hst
    refine ⟨cs, ?_, ?_⟩
    · obtain ⟨m, hm'⟩ : ∃ m, n - i = m + 1 := ⟨n - i - 1, by omega⟩
      rw [hm'] at hst ⊢
      clear hcs0 hcs hzl hik hck hx hs hg
      simp [Builtin.clear_, run_underlying ht, hv, hst]
    · subst hcs0
      refine ⟨by rw [List.length_take, hlen]; have := Nat.mul_le_mul_right k (Nat.le_of_lt hi); omega, .inr ⟨g, c, _, rfl, hb, setRow_heap W g cur _ e (0, 0) hg, by omega, hm, ?_, ?_⟩⟩
      · simp only [List.size_toArray, List.length_append, List.length_take, List.length_drop, Array.length_toList, hzl, hs]
        omega
      · rw [List.toList_toArray, List.append_assoc, Nat.add_zero, List.take_append_of_le_length (by rw [List.length_take, Array.length_toList, hs]; omega), List.take_take, Nat.min_self, ← hx, List.take_take]
        rw [Nat.min_eq_left (Nat.mul_le_mul_right k (Nat.le_of_lt hi))]
theorem own_cap {W : World} {base g n c k : Nat} {e : TypeId} {xs : List Value} (h : W.ownsRow base e k (.slice (some ⟨g, 0, none⟩) n c) n xs) : n ≤ c := by
  rcases h.2 with ⟨he, hn⟩ | ⟨g', cap, cur, he, hb, hg, hn, hm, hs, hx⟩
  · cases he
  · injection he with ha _ hc
    subst hc
    exact hn
/-- A row that is cut keeps its beginning. -/
theorem own_cut {W : World} {base g n c i k : Nat} {e : TypeId} {xs : List Value} (h : W.ownsRow base e k (.slice (some ⟨g, 0, none⟩) n c) n xs) (hi : i ≤ n) : W.ownsRow base e k (.slice (some ⟨g, 0, none⟩) i c) i (xs.take (i * k)) := by
  have hlen := h.1
  rcases h.2 with ⟨he, hn⟩ | ⟨g', cap, cur, he, hb, hg, hn, hm, hs, hx⟩
  · cases he
  · injection he with ha _ hc
    injection ha with ha
    injection ha with ha
    subst ha hc
    have := Nat.mul_le_mul_right k hi
    refine ⟨by rw [List.length_take, hlen]; omega, .inr ⟨g, c, cur, rfl, hb, hg, by omega, hm, hs, ?_⟩⟩
    rw [← hx, List.take_take, Nat.min_eq_left this]

/-- What is left of the first j, in the first i of ds; behind j all is as it was. -/
structure DelI {α : Type} (F : α → Bool) (qs ds : List α) (i j : Nat) : Prop where
  len : ds.length = qs.length
  lt : i < j
  le : j ≤ qs.length
  low : ds.take i = (qs.take j).filter fun x => !F x
  high : ds.drop j = qs.drop j
theorem filter_none {α : Type} {F : α → Bool} {l : List α} (h : ∀ x ∈ l, F x = false) : (l.filter fun x => !F x) = l := List.filter_eq_self.2 fun x hx => by rw [h x hx]; rfl
theorem DelI.start {α : Type} {F : α → Bool} {qs : List α} {k : Nat} {x : α} (hx : qs[k]? = some x) (hF : F x = true) (ha : ∀ y ∈ qs.take k, F y = false) : DelI F qs qs k (k + 1) := by
  have hk := (List.getElem?_eq_some_iff.1 hx).1
  refine ⟨rfl, Nat.lt_succ_self _, hk, ?_, rfl⟩
  rw [take_snoc hx, List.filter_append, filter_none ha]
  simp [hF]
theorem DelI.skip {α : Type} {F : α → Bool} {qs ds : List α} {i j : Nat} {x : α} (h : DelI F qs ds i j) (hx : qs[j]? = some x) (hF : F x = true) : DelI F qs ds i (j + 1) := by
  have hk := (List.getElem?_eq_some_iff.1 hx).1
  refine ⟨h.len, by have := h.lt; omega, hk, ?_, ?_⟩
  · rw [h.low, take_snoc hx, List.filter_append]
    simp [hF]
  · rw [← List.drop_drop, h.high, List.drop_drop]
theorem DelI.keep {α : Type} {F : α → Bool} {qs ds : List α} {i j : Nat} {x : α} (h : DelI F qs ds i j) (hx : qs[j]? = some x) (hF : F x = false) : DelI F qs (ds.set i x) (i + 1) (j + 1) := by
  have hk := (List.getElem?_eq_some_iff.1 hx).1
  have hlt := h.lt
  have hi : i < ds.length := by rw [h.len]; omega
  refine ⟨by rw [List.length_set]; exact h.len, by omega, hk, ?_, ?_⟩
  · rw [take_snoc (List.getElem?_set_self hi), List.take_set_of_le (Nat.le_refl _), h.low, take_snoc hx, List.filter_append]
    simp [hF]
  · rw [List.drop_set_of_lt (by omega), ← List.drop_drop, h.high, List.drop_drop]
theorem DelI.at_ {α : Type} {F : α → Bool} {qs ds : List α} {i j : Nat} {x : α} (h : DelI F qs ds i j) (hx : qs[j]? = some x) : ds[j]? = some x := by
  have h1 : (ds.drop j)[0]? = (qs.drop j)[0]? := by rw [h.high]
  rw [List.getElem?_drop, List.getElem?_drop] at h1
  simpa [hx] using h1
theorem DelI.done {α : Type} {F : α → Bool} {qs ds : List α} {i : Nat} (h : DelI F qs ds i qs.length) : ds.take i = qs.filter fun x => !F x := by
  have := h.low
  rwa [List.take_length] at this
/-- The first place at which something holds, or -1. -/
def idxF {α : Type} (F : α → Bool) (qs : List α) : Int := match qs.findIdx? F with | none => -1 | some k => (k : Int)
theorem idxF_at {α : Type} {F : α → Bool} {qs : List α} {k : Nat} {x : α} (ha : (qs.take k).all (fun y => !F y) = true) (hx : qs[k]? = some x) (hF : F x = true) : idxF F qs = (k : Int) := by
  have : qs.findIdx? F = some k := by
    rw [List.findIdx?_eq_some_iff_getElem]
    obtain ⟨hk, e⟩ := List.getElem?_eq_some_iff.1 hx
    refine ⟨hk, by rw [e]; exact hF, fun j hj => ?_⟩
    have := List.all_eq_true.1 ha qs[j] (by rw [List.mem_take_iff_getElem]; exact ⟨j, by omega, rfl⟩)
    simpa using this
  unfold idxF
  rw [this]
theorem idxF_none {α : Type} {F : α → Bool} {qs : List α} (ha : qs.all (fun y => !F y) = true) : idxF F qs = -1 := by
  have : qs.findIdx? F = none := by
    rw [List.findIdx?_eq_none_iff]
    intro x hx
    have := List.all_eq_true.1 ha x hx
    simpa using this
  unfold idxF
  rw [this]
theorem idxF_cases {α : Type} (F : α → Bool) (qs : List α) : (idxF F qs = -1 ∧ (qs.filter fun x => !F x) = qs) ∨ ∃ k x, idxF F qs = ((k : Nat) : Int) ∧ qs[k]? = some x ∧ F x = true ∧ DelI F qs qs k (k + 1) := by
  unfold idxF
  cases h : qs.findIdx? F with
  | none =>
    rw [List.findIdx?_eq_none_iff] at h
    exact .inl ⟨rfl, filter_none h⟩
  | some k =>
    rw [List.findIdx?_eq_some_iff_getElem] at h
    obtain ⟨hk, h1, h2⟩ := h
    have hx : qs[k]? = some qs[k] := List.getElem?_eq_getElem hk
    refine .inr ⟨k, qs[k], rfl, hx, h1, DelI.start hx h1 fun y hy => ?_⟩
    obtain ⟨j, hj, rfl⟩ := List.mem_take_iff_getElem.1 hy
    have := h2 j (by omega)
    simpa using this

end Go.Proofs.Ytikblaebfpdngaa

/- slices.DeleteFunc on numbers, at the closure of patch.without; contract of without. -/
set_option linter.unusedVariables false
set_option linter.unusedSimpArgs false
namespace Go.Proofs.Ytikblaebfpdngaa
open Go.RowKit Tinker

set_option maxRecDepth 100000 in
set_option maxHeartbeats 1000000 in
theorem indexI_any (a : Option Addr) (c : Nat) (zs : List Int) (n : Int) (w : World) (hz : IntsAt w a zs) (hm : zs.length ≤ 1000) :
    Calls Try.prog 93 #[.slice a zs.length c, .int .i64 n] w fun e w' => e = .returned (.int .i64 (idxF (fun x => x == n) zs)) ∧ w = w' := by
  go_enter Try.func93, Try.ntmps93
  go_wp2_with fail
  go_loopw [8] (fun s8 wr => ∃ k : Nat, k ≤ zs.length ∧ s8 = .int .i64 k ∧ (zs.take k).all (fun x => !(x == n)) = true ∧ wr = w) (fun s8 _ => zs.length - (intOf s8).toNat)
  case atStart => exact ⟨0, Nat.zero_le _, rfl, by simp, rfl⟩
  case round =>
    obtain ⟨k, hk, rfl, hall, rfl⟩ := hrel
    have HA := Lib.hid hall
    clear hall
    by_cases hlt : k < zs.length
    · obtain ⟨b, off, x, rfl, hlb, hx, c0⟩ := hz.at_ hlt
      have HX := Lib.hid hx
      clear hx
      by_cases hn : n = x
      · have d1 : (n == x) = true := by simpa using hn
        have HI := Lib.hid (idxF_at (F := fun x => x == n) HA.out HX.out (by simpa using hn.symm))
        clear hn
        go_wp2_with fail
        go_ret
        exact ⟨ret_int HI.out.symm, rfl⟩
      · have d1 : (n == x) = false := by simpa using hn
        have HN := Lib.hid (all_snoc (f := fun x => !(x == n)) HA.out HX.out (by simpa using fun h : x = n => hn h.symm))
        clear hn
        go_wp2_with fail
        go_roundw
        case rel => exact ⟨k + 1, by omega, by go_num, HN.out, by first | trivial | rfl⟩
        case measure => simp [intOf]; omega
    · have HI := Lib.hid (idxF_none (F := fun x => x == n) (all_whole HA.out hlt))
      go_wp2_with fail
      go_ret
      exact ⟨ret_int HI.out.symm, rfl⟩
theorem idx_has (zs : List Int) (n : Int) : decide (0 ≤ idxF (fun x => x == n) zs) = hasB zs n := by
  rcases idxF_cases (fun x => x == n) zs with ⟨h1, h2⟩ | ⟨k, x, h1, h2, h3, _⟩
  · rw [h1]
    have : hasB zs n = false := by
      cases h : hasB zs n
      · rfl
      · obtain ⟨x, hx, hxn⟩ := List.any_eq_true.1 h
        have := List.filter_eq_self.1 h2 x hx
        rw [hxn] at this
        cases this
    rw [this]
    rfl
  · rw [h1]
    have : hasB zs n = true := List.any_eq_true.2 ⟨x, mem_of_get h2, h3⟩
    rw [this]
    simp

set_option maxHeartbeats 400000 in
theorem containsI_any (a : Option Addr) (c : Nat) (zs : List Int) (n : Int) (w : World) (hz : IntsAt w a zs) (hm : zs.length ≤ 1000) :
    Calls Try.prog 75 #[.slice a zs.length c, .int .i64 n] w fun e w' => e = .returned (.bool (hasB zs n)) ∧ w = w' := by
  rw [← idx_has]
  have HI := Lib.hid (indexI_any a c zs n w hz hm)
  clear hz
  generalize idxF (fun x => x == n) zs = r at HI ⊢
  go_enter Try.func75, Try.ntmps75
  go_wp2_with fail
  refine HI.out.mono ?_
  rintro e w1 ⟨rfl, rfl⟩
  go_wp2_with fail
  go_ret
  exact ⟨rfl, rfl⟩

theorem own_ints {W : World} {base g n c : Nat} {e : TypeId} {zs : List Int} (h : W.ownsRow base e 1 (.slice (some ⟨g, 0, none⟩) n c) n (zs.map (Value.int .i64))) {k : Nat} {x : Int} (hx : zs[k]? = some x) : W.cell? ⟨g, k, none⟩ = some (.int .i64 x) :=
  own_cell h (by rw [List.getElem?_map, hx]; rfl)
theorem own_putI {W : World} {base g n c : Nat} {e : TypeId} {zs : List Int} (h : W.ownsRow base e 1 (.slice (some ⟨g, 0, none⟩) n c) n (zs.map (Value.int .i64))) (k : Nat) (x : Int) : (W.setCell ⟨g, k, none⟩ (.int .i64 x)).ownsRow base e 1 (.slice (some ⟨g, 0, none⟩) n c) n ((zs.set k x).map (Value.int .i64)) := by
  rw [List.map_set]
  exact own_setCell h k _
theorem one_int (z : Value) (hz : z = .int .i64 0) : z.cells.size = 1 ∧ ∀ v ∈ z.cells, v.oneCell' = true := by
  subst hz
  refine ⟨rfl, fun v hv => ?_⟩
  have : v = .int .i64 0 := by simpa [Value.cells] using hv
  rw [this]
  rfl

end Go.Proofs.Ytikblaebfpdngaa
