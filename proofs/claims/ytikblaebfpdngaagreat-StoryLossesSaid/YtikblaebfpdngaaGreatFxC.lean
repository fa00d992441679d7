/- Several texts in one. -/
import Derived.Test.YtikblaebfpdngaaGreatPtM
import Derived.Test.YtikblaebfpdngaaGreatOff
import Derived.Test.YtikblaebfpdngaaGreatFxW
import Derived.Test.YtikblaebfpdngaaGreatRunA
/- A row that is shortened in place: what a world keeps beside one block; what is left of a list; clear of a row's end. -/
set_option linter.unusedVariables false
set_option linter.unusedSimpArgs false
namespace Go.Proofs.YtikblaebfpdngaaGreat
open Go.RowKit Tinker


/-- The end of a row is cleared, and the row cut. -/
theorem own_clear {t e : TypeId} {z : Value} {k : Nat} (ht : Tryz.prog.underlying t = some (.slice e)) (hv : ∀ w, (zeroValue e).run Tryz.prog w = .ok z w) (hz : z.cells.size = k) (h1 : ∀ v ∈ z.cells, v.oneCell' = true)
    {W : World} {base g n c i : Nat} {xs : List Value} (h : W.ownsRow base e k (.slice (some ⟨g, 0, none⟩) n c) n xs) (hi : i < n) (hk : 0 < k) (c' : Nat) (ty : TypeId) :
    ∃ cur, (Builtin.clear_ #[t] ty #[.slice (some ⟨g, i * k, none⟩) (n - i) c']).run Tryz.prog W = .ok (.tuple #[]) (W.setRow g cur) ∧ (W.setRow g cur).ownsRow base e k (.slice (some ⟨g, 0, none⟩) i c) i (xs.take (i * k)) := by
  have hlen := h.1
  rcases h.2 with ⟨he, hn⟩ | ⟨g', cap, cur, he, hb, hg, hn, hm, hs, hx⟩
  · cases he
  · injection he with ha _ hc
    injection ha with ha
    injection ha with ha
    subst ha hc
    have hcs : ∀ v ∈ (Builtin.zeroCells z.cells (n - i)).toList, v.oneCell' = true := by
      intro v hv
      unfold Builtin.zeroCells at hv
      simp only [Array.toList_map, List.mem_map] at hv
      obtain ⟨j, _, rfl⟩ := hv
      have hj : j % z.cells.size < z.cells.size := Nat.mod_lt _ (by rw [hz]; exact hk)
      rw [getElem!_pos z.cells _ hj]
      exact h1 _ (Array.getElem_mem hj)
    have hzl : (Builtin.zeroCells z.cells (n - i)).toList.length = (n - i) * k := by
      unfold Builtin.zeroCells
      rw [Array.length_toList, Array.size_map, Array.size_range, hz]
    have hik : i * k + (n - i) * k = n * k := by rw [← Nat.add_mul, Nat.add_sub_cancel' (Nat.le_of_lt hi)]
    have hck : n * k ≤ c * k := Nat.mul_le_mul_right k hn
    have hst := run_storeCells_at (P := Tryz.prog) g (i * k) e (Builtin.zeroCells z.cells (n - i)).toList 0 cur W hg (by rw [hzl, hs]; omega) hcs
    obtain ⟨cs, hcs0⟩ : ∃ cs, cs = (cur.toList.take (i * k + 0) ++ (Builtin.zeroCells z.cells (n - i)).toList ++ cur.toList.drop (i * k + 0 + (Builtin.zeroCells z.cells (n - i)).toList.length)).toArray := ⟨_, rfl⟩
    rw [← hcs0] at hst
    refine ⟨cs, ?_, ?_⟩
    · obtain ⟨m, hm'⟩ : ∃ m, n - i = m + 1 := ⟨n - i - 1, by omega⟩
      rw [hm'] at hst ⊢
      clear hcs0 hcs hzl hik hck hx hs hg
      simp [Builtin.clear_, run_underlying ht, hv, hst]
    · subst hcs0
      refine ⟨by rw [List.length_take, hlen]; have := Nat.mul_le_mul_right k (Nat.le_of_lt hi); omega, .inr ⟨g, c, _, rfl, hb, setRow_heap W g cur _ e (0, 0) hg, by omega, hm, ?_, ?_⟩⟩
      · simp only [List.size_toArray, List.length_append, List.length_take, List.length_drop, Array.length_toList, hzl, hs]
        omega
      · rw [List.toList_toArray, List.append_assoc, Nat.add_zero, List.take_append_of_le_length (by rw [List.length_take, Array.length_toList, hs]; omega), List.take_take, Nat.min_self, ← hx, List.take_take]
        rw [Nat.min_eq_left (Nat.mul_le_mul_right k (Nat.le_of_lt hi))]
theorem own_cap {W : World} {base g n c k : Nat} {e : TypeId} {xs : List Value} (h : W.ownsRow base e k (.slice (some ⟨g, 0, none⟩) n c) n xs) : n ≤ c := by
  rcases h.2 with ⟨he, hn⟩ | ⟨g', cap, cur, he, hb, hg, hn, hm, hs, hx⟩
  · cases he
  · injection he with ha _ hc
    subst hc
    exact hn
/-- A row that is cut keeps its beginning. -/
theorem own_cut {W : World} {base g n c i k : Nat} {e : TypeId} {xs : List Value} (h : W.ownsRow base e k (.slice (some ⟨g, 0, none⟩) n c) n xs) (hi : i ≤ n) : W.ownsRow base e k (.slice (some ⟨g, 0, none⟩) i c) i (xs.take (i * k)) := by
  have hlen := h.1
  rcases h.2 with ⟨he, hn⟩ | ⟨g', cap, cur, he, hb, hg, hn, hm, hs, hx⟩
  · cases he
  · injection he with ha _ hc
    injection ha with ha
    injection ha with ha
    subst ha hc
    have := Nat.mul_le_mul_right k hi
    refine ⟨by rw [List.length_take, hlen]; omega, .inr ⟨g, c, cur, rfl, hb, hg, by omega, hm, hs, ?_⟩⟩
    rw [← hx, List.take_take, Nat.min_eq_left this]

/-- What is left of the first j, in the first i of ds; behind j all is as it was. -/
structure DelI {α : Type} (F : α → Bool) (qs ds : List α) (i j : Nat) : Prop where
  len : ds.length = qs.length
  lt : i < j
  le : j ≤ qs.length
  low : ds.take i = (qs.take j).filter fun x => !F x
  high : ds.drop j = qs.drop j
theorem filter_none {α : Type} {F : α → Bool} {l : List α} (h : ∀ x ∈ l, F x = false) : (l.filter fun x => !F x) = l := List.filter_eq_self.2 fun x hx => by rw [h x hx]; rfl
theorem DelI.start {α : Type} {F : α → Bool} {qs : List α} {k : Nat} {x : α} (hx : qs[k]? = some x) (hF : F x = true) (ha : ∀ y ∈ qs.take k, F y = false) : DelI F qs qs k (k + 1) := by
  have hk := (List.getElem?_eq_some_iff.1 hx).1
  refine ⟨rfl, Nat.lt_succ_self _, hk, ?_, rfl⟩
  rw [take_snoc hx, List.filter_append, filter_none ha]
  simp [hF]
theorem DelI.skip {α : Type} {F : α → Bool} {qs ds : List α} {i j : Nat} {x : α} (h : DelI F qs ds i j) (hx : qs[j]? = some x) (hF : F x = true) : DelI F qs ds i (j + 1) := by
  have hk := (List.getElem?_eq_some_iff.1 hx).1
  refine ⟨h.len, by have := h.lt; omega, hk, ?_, ?_⟩
  · rw [h.low, take_snoc hx, List.filter_append]
    simp [hF]
  · rw [← List.drop_drop, h.high, List.drop_drop]
theorem DelI.keep {α : Type} {F : α → Bool} {qs ds : List α} {i j : Nat} {x : α} (h : DelI F qs ds i j) (hx : qs[j]? = some x) (hF : F x = false) : DelI F qs (ds.set i x) (i + 1) (j + 1) := by
  have hk := (List.getElem?_eq_some_iff.1 hx).1
  have hlt := h.lt
  have hi : i < ds.length := by rw [h.len]; omega
  refine ⟨by rw [List.length_set]; exact h.len, by omega, hk, ?_, ?_⟩
  · rw [take_snoc (List.getElem?_set_self hi), List.take_set_of_le (Nat.le_refl _), h.low, take_snoc hx, List.filter_append]
    simp [hF]
  · rw [List.drop_set_of_lt (by omega), ← List.drop_drop, h.high, List.drop_drop]
theorem DelI.at_ {α : Type} {F : α → Bool} {qs ds : List α} {i j : Nat} {x : α} (h : DelI F qs ds i j) (hx : qs[j]? = some x) : ds[j]? = some x := by
  have h1 : (ds.drop j)[0]? = (qs.drop j)[0]? := by rw [h.high]
  rw [List.getElem?_drop, List.getElem?_drop] at h1
  simpa [hx] using h1
theorem DelI.done {α : Type} {F : α → Bool} {qs ds : List α} {i : Nat} (h : DelI F qs ds i qs.length) : ds.take i = qs.filter fun x => !F x := by
  have := h.low
  rwa [List.take_length] at this
/-- The first place at which something holds, or -1. -/
def idxF {α : Type} (F : α → Bool) (qs : List α) : Int := match qs.findIdx? F with | none => -1 | some k => (k : Int)
theorem idxF_at {α : Type} {F : α → Bool} {qs : List α} {k : Nat} {x : α} (ha : (qs.take k).all (fun y => !F y) = true) (hx : qs[k]? = some x) (hF : F x = true) : idxF F qs = (k : Int) := by
  have : qs.findIdx? F = some k := by
    rw [List.findIdx?_eq_some_iff_getElem]
    obtain ⟨hk, e⟩ := List.getElem?_eq_some_iff.1 hx
    refine ⟨hk, by rw [e]; exact hF, fun j hj => ?_⟩
    have := List.all_eq_true.1 ha qs[j] (by rw [List.mem_take_iff_getElem]; exact ⟨j, by omega, rfl⟩)
    simpa using this
  unfold idxF
  rw [this]
theorem idxF_none {α : Type} {F : α → Bool} {qs : List α} (ha : qs.all (fun y => !F y) = true) : idxF F qs = -1 := by
  have : qs.findIdx? F = none := by
    rw [List.findIdx?_eq_none_iff]
    intro x hx
    have := List.all_eq_true.1 ha x hx
    simpa using this
  unfold idxF
  rw [this]
theorem idxF_cases {α : Type} (F : α → Bool) (qs : List α) : (idxF F qs = -1 ∧ (qs.filter fun x => !F x) = qs) ∨ ∃ k x, idxF F qs = ((k : Nat) : Int) ∧ qs[k]? = some x ∧ F x = true ∧ DelI F qs qs k (k + 1) := by
  unfold idxF
  cases h : qs.findIdx? F with
  | none =>
    rw [List.findIdx?_eq_none_iff] at h
    exact .inl ⟨rfl, filter_none h⟩
  | some k =>
    rw [List.findIdx?_eq_some_iff_getElem] at h
    obtain ⟨hk, h1, h2⟩ := h
    have hx : qs[k]? = some qs[k] := List.getElem?_eq_getElem hk
    refine .inr ⟨k, qs[k], rfl, hx, h1, DelI.start hx h1 fun y hy => ?_⟩
    obtain ⟨j, hj, rfl⟩ := List.mem_take_iff_getElem.1 hy
    have := h2 j (by omega)
    simpa using this

end Go.Proofs.YtikblaebfpdngaaGreat

/- slices.DeleteFunc on numbers, at the closure of patch.without; contract of without. -/
set_option linter.unusedVariables false
set_option linter.unusedSimpArgs false
namespace Go.Proofs.YtikblaebfpdngaaGreat
open Go.RowKit Tinker

set_option maxRecDepth 100000 in
set_option maxHeartbeats 1000000 in
theorem indexI_any (a : Option Addr) (c : Nat) (zs : List Int) (n : Int) (w : World) (hz : IntsAt w a zs) (hm : zs.length ≤ 1000) :
    Calls Tryz.prog 112 #[.slice a zs.length c, .int .i64 n] w fun e w' => e = .returned (.int .i64 (idxF (fun x => x == n) zs)) ∧ w = w' := by
  go_enter Tryz.func112, Tryz.ntmps112
  go_wp2_with fail
  go_loopw [8] (fun s8 wr => ∃ k : Nat, k ≤ zs.length ∧ s8 = .int .i64 k ∧ (zs.take k).all (fun x => !(x == n)) = true ∧ wr = w) (fun s8 _ => zs.length - (intOf s8).toNat)
  case atStart => exact ⟨0, Nat.zero_le _, rfl, by simp, rfl⟩
  case round =>
    obtain ⟨k, hk, rfl, hall, rfl⟩ := hrel
    have HA := Lib.hid hall
    clear hall
    by_cases hlt : k < zs.length
    · obtain ⟨b, off, x, rfl, hlb, hx, c0⟩ := hz.at_ hlt
      have HX := Lib.hid hx
      clear hx
      by_cases hn : n = x
      · have d1 : (n == x) = true := by simpa using hn
        have HI := Lib.hid (idxF_at (F := fun x => x == n) HA.out HX.out (by simpa using hn.symm))
        clear hn
        go_wp2_with fail
        go_ret
        exact ⟨ret_int HI.out.symm, rfl⟩
      · have d1 : (n == x) = false := by simpa using hn
        have HN := Lib.hid (all_snoc (f := fun x => !(x == n)) HA.out HX.out (by simpa using fun h : x = n => hn h.symm))
        clear hn
        go_wp2_with fail
        go_roundw
        case rel => exact ⟨k + 1, by omega, by go_num, HN.out, by first | trivial | rfl⟩
        case measure => simp [intOf]; omega
    · have HI := Lib.hid (idxF_none (F := fun x => x == n) (all_whole HA.out hlt))
      go_wp2_with fail
      go_ret
      exact ⟨ret_int HI.out.symm, rfl⟩
theorem idx_has (zs : List Int) (n : Int) : decide (0 ≤ idxF (fun x => x == n) zs) = hasB zs n := by
  rcases idxF_cases (fun x => x == n) zs with ⟨h1, h2⟩ | ⟨k, x, h1, h2, h3, _⟩
  · rw [h1]
    have : hasB zs n = false := by
      cases h : hasB zs n
      · rfl
      · obtain ⟨x, hx, hxn⟩ := List.any_eq_true.1 h
        have := List.filter_eq_self.1 h2 x hx
        rw [hxn] at this
        cases this
    rw [this]
    rfl
  · rw [h1]
    have : hasB zs n = true := List.any_eq_true.2 ⟨x, mem_of_get h2, h3⟩
    rw [this]
    simp

set_option maxHeartbeats 400000 in
theorem containsI_any (a : Option Addr) (c : Nat) (zs : List Int) (n : Int) (w : World) (hz : IntsAt w a zs) (hm : zs.length ≤ 1000) :
    Calls Tryz.prog 90 #[.slice a zs.length c, .int .i64 n] w fun e w' => e = .returned (.bool (hasB zs n)) ∧ w = w' := by
  rw [← idx_has]
  have HI := Lib.hid (indexI_any a c zs n w hz hm)
  clear hz
  generalize idxF (fun x => x == n) zs = r at HI ⊢
  go_enter Tryz.func90, Tryz.ntmps90
  go_wp2_with fail
  refine HI.out.mono ?_
  rintro e w1 ⟨rfl, rfl⟩
  go_wp2_with fail
  go_ret
  exact ⟨rfl, rfl⟩

set_option maxHeartbeats 400000 in
theorem without1_any (P : Nat) (a : Option Addr) (c : Nat) (zs : List Int) (n : Int) (w : World) (hP : w.cell? ⟨P, 0, none⟩ = some (.slice a zs.length c)) (hz : IntsAt w a zs) (hm : zs.length ≤ 1000) :
    Calls Tryz.prog 110 #[.int .i64 n, .pointer (some ⟨P, 0, none⟩)] w fun e w' => e = .returned (.bool (hasB zs n)) ∧ w = w' := by
  have HI := Lib.hid (containsI_any a c zs n w hz hm)
  clear hz
  go_enter Tryz.func110, Tryz.ntmps110
  go_wp2_with fail
  refine HI.out.mono ?_
  rintro e w1 ⟨rfl, rfl⟩
  go_wp2_with fail
  go_ret
  exact ⟨rfl, rfl⟩

set_option maxRecDepth 100000 in
set_option maxHeartbeats 1000000 in
theorem idxWo_any (P : Nat) (F : Int → Bool) (a : Option Addr) (c : Nat) (zs : List Int) (w : World) (hz : IntsAt w a zs) (hm : zs.length ≤ 1000)
    (hC : ∀ n, Calls Tryz.prog 110 #[.int .i64 n, .pointer (some ⟨P, 0, none⟩)] w fun e w' => e = .returned (.bool (F n)) ∧ w = w') :
    Calls Tryz.prog 113 #[.slice a zs.length c, .func (.func 110) #[] #[.pointer (some ⟨P, 0, none⟩)]] w fun e w' => e = .returned (.int .i64 (idxF F zs)) ∧ w = w' := by
  have HC := Lib.hid hC
  clear hC
  go_enter Tryz.func113, Tryz.ntmps113
  go_wp2_with fail
  go_loopw [8] (fun s8 wr => ∃ k : Nat, k ≤ zs.length ∧ s8 = .int .i64 k ∧ (zs.take k).all (fun x => !F x) = true ∧ wr = w) (fun s8 _ => zs.length - (intOf s8).toNat)
  case atStart => exact ⟨0, Nat.zero_le _, rfl, by simp, rfl⟩
  case round =>
    obtain ⟨k, hk, rfl, hall, rfl⟩ := hrel
    have HA := Lib.hid hall
    clear hall
    by_cases hlt : k < zs.length
    · obtain ⟨b, off, x, rfl, hlb, hx, c0⟩ := hz.at_ hlt
      have HX := Lib.hid hx
      have HF := Lib.hid (HC.out x)
      clear hx
      cases hn : F x
      · have HN := Lib.hid (all_snoc (f := fun x => !F x) HA.out HX.out (by simpa using hn))
        rw [hn] at HF
        clear hn
        go_wp2_with fail
        refine HF.out.mono ?_
        rintro e w1 ⟨rfl, rfl⟩
        go_wp2_with fail
        go_roundw
        case rel => exact ⟨k + 1, by omega, by go_num, HN.out, by first | trivial | rfl⟩
        case measure => simp [intOf]; omega
      · have HI := Lib.hid (idxF_at (F := F) HA.out HX.out hn)
        rw [hn] at HF
        clear hn
        go_wp2_with fail
        refine HF.out.mono ?_
        rintro e w1 ⟨rfl, rfl⟩
        go_wp2_with fail
        go_ret
        exact ⟨ret_int HI.out.symm, rfl⟩
    · have HI := Lib.hid (idxF_none (F := F) (all_whole HA.out hlt))
      go_wp2_with fail
      go_ret
      exact ⟨ret_int HI.out.symm, rfl⟩

theorem own_ints {W : World} {base g n c : Nat} {e : TypeId} {zs : List Int} (h : W.ownsRow base e 1 (.slice (some ⟨g, 0, none⟩) n c) n (zs.map (Value.int .i64))) {k : Nat} {x : Int} (hx : zs[k]? = some x) : W.cell? ⟨g, k, none⟩ = some (.int .i64 x) :=
  own_cell h (by rw [List.getElem?_map, hx]; rfl)
theorem own_putI {W : World} {base g n c : Nat} {e : TypeId} {zs : List Int} (h : W.ownsRow base e 1 (.slice (some ⟨g, 0, none⟩) n c) n (zs.map (Value.int .i64))) (k : Nat) (x : Int) : (W.setCell ⟨g, k, none⟩ (.int .i64 x)).ownsRow base e 1 (.slice (some ⟨g, 0, none⟩) n c) n ((zs.set k x).map (Value.int .i64)) := by
  rw [List.map_set]
  exact own_setCell h k _
theorem one_int (z : Value) (hz : z = .int .i64 0) : z.cells.size = 1 ∧ ∀ v ∈ z.cells, v.oneCell' = true := by
  subst hz
  refine ⟨rfl, fun v hv => ?_⟩
  have : v = .int .i64 0 := by simpa [Value.cells] using hv
  rw [this]
  rfl

set_option maxRecDepth 100000 in
set_option maxHeartbeats 2000000 in
theorem delWo_any (P g base c : Nat) (F : Int → Bool) (zs : List Int) (w : World) (hO : w.ownsRow base 3 1 (.slice (some ⟨g, 0, none⟩) zs.length c) zs.length (zs.map (Value.int .i64))) (hm : zs.length ≤ 1000)
    (hC : ∀ W, Off g w W → ∀ n, Calls Tryz.prog 110 #[.int .i64 n, .pointer (some ⟨P, 0, none⟩)] W fun e w' => e = .returned (.bool (F n)) ∧ W = w') :
    Calls Tryz.prog 108 #[.slice (some ⟨g, 0, none⟩) zs.length c, .func (.func 110) #[] #[.pointer (some ⟨P, 0, none⟩)]] w fun e w' =>
      e = .returned (.slice (some ⟨g, 0, none⟩) (zs.filter fun x => !F x).length c) ∧ w'.ownsRow base 3 1 (.slice (some ⟨g, 0, none⟩) (zs.filter fun x => !F x).length c) (zs.filter fun x => !F x).length ((zs.filter fun x => !F x).map (Value.int .i64)) ∧ Off g w w' := by
  have HI := Lib.hid (idxWo_any P F (some ⟨g, 0, none⟩) c zs w (ints_of_own hO).1 hm (hC w (Off.refl g w)))
  have HC := Lib.hid hC
  have HO := Lib.hid hO
  clear hC hO
  have hcap := own_cap HO.out
  rcases idxF_cases F zs with ⟨h1, h2⟩ | ⟨k0, x0, h1, h2, h3, h4⟩
  · rw [h1] at HI
    rw [h2]
    clear h1 h2
    go_enter Tryz.func108, Tryz.ntmps108
    go_wp2_with fail
    refine HI.out.mono ?_
    rintro e w1 ⟨rfl, rfl⟩
    go_wp2_with fail
    go_ret
    exact ⟨rfl, HO.out, Off.refl _ _⟩
  · rw [h1] at HI
    have hkl : k0 < zs.length := (List.getElem?_eq_some_iff.1 h2).1
    have HD := Lib.hid h4
    have hne : ((k0 : Int) == -1) = false := beq_eq_false_iff_ne.2 (by omega)
    clear h1 h2 h3 h4
    go_enter Tryz.func108, Tryz.ntmps108
    go_wp2_with fail
    refine HI.out.mono ?_
    rintro e w1 ⟨rfl, rfl⟩
    go_wp2_with fail
    go_loopw [5, 6] (fun s5 s6 wr => ∃ (i j : Nat) (ds : List Int), s5 = .int .i64 i ∧ s6 = .int .i64 j ∧ DelI F zs ds i j ∧ wr.ownsRow base 3 1 (.slice (some ⟨g, 0, none⟩) zs.length c) zs.length (ds.map (Value.int .i64)) ∧ Off g w wr) (fun _ s6 _ => zs.length - (intOf s6).toNat)
    case atStart => exact ⟨k0, k0 + 1, zs, rfl, by go_num, HD.out, HO.out, Off.refl _ _⟩
    case round =>
      clear HO HD HI
      obtain ⟨i, j, ds, rfl, rfl, hD, hO, hF⟩ := hrel
      have hij := hD.lt
      have hjl := hD.le
      by_cases hlt : j < zs.length
      · obtain ⟨x, hx⟩ := get_of_lt hlt
        have c0 := own_ints hO (hD.at_ hx)
        have f0 := own_free hO i
        have HF := Lib.hid (HC.out wr hF x)
        have hi : i < ds.length := by rw [hD.len]; omega
        obtain ⟨y, hy⟩ := get_of_lt hi
        have c1 := own_ints hO hy
        have HX := Lib.hid hx
        have HD := Lib.hid hD
        have HO := Lib.hid hO
        have HW := Lib.hid hF
        clear hx hD hO hF hi hy
        cases hn : F x
        · have HD2 := Lib.hid (HD.out.keep HX.out hn)
          rw [hn] at HF
          clear hn
          go_wp2_with fail
          refine HF.out.mono ?_
          rintro e w1 ⟨rfl, rfl⟩
          go_wp2_with fail
          go_roundw
          case rel => exact ⟨i + 1, j + 1, _, by go_num, by go_num, HD2.out, own_putI HO.out i x, HW.out.trans (Off.setCell _ _ _ _)⟩
          case measure => simp [intOf]; omega
        · have HD2 := Lib.hid (HD.out.skip HX.out hn)
          rw [hn] at HF
          clear hn
          go_wp2_with fail
          refine HF.out.mono ?_
          rintro e w1 ⟨rfl, rfl⟩
          go_wp2_with fail
          go_roundw
          case rel => exact ⟨i, j + 1, _, rfl, by go_num, HD2.out, HO.out, HW.out⟩
          case measure => simp [intOf]; omega
      · obtain rfl : j = zs.length := by omega
        have HE := Lib.hid hD.done
        obtain ⟨cur, hcl, hown⟩ := own_clear (t := 24) (e := 3) (z := .int .i64 0) (k := 1) Tryz.underlying24 Tryz.zeroValue3 (one_int _ rfl).1 (one_int _ rfl).2 hO (show i < zs.length from hij) (by decide) (c - i) 0
        have hil : i = (zs.filter fun x => !F x).length := by rw [← HE.out, List.length_take, hD.len]; omega
        rw [Nat.mul_one, ← List.map_take, HE.out] at hown
        rw [Nat.mul_one] at hcl
        have HIL := Lib.hid hil
        clear hil
        have HW := Lib.hid (hF.trans (Off.setRow g wr cur))
        have HOW := Lib.hid hown
        clear hD hO hF hown HE HC
        have hci : ¬ c = i := by omega
        go_wp2_with fail
        go_ret
        have HOW := HOW.out
        have HIL := HIL.out
        rw [← HIL]
        exact ⟨rfl, HOW, HW.out⟩

end Go.Proofs.YtikblaebfpdngaaGreat

/- Fixes and Breaks of patch: contracts. -/
set_option linter.unusedVariables false
set_option linter.unusedSimpArgs false
namespace Go.Proofs.YtikblaebfpdngaaGreat
open Go.RowKit Tinker

theorem info_intP : (Tryz.prog.info? 3).map (fun i => (i.zero, i.size, i.bytes)) = some (some (.int .i64 0), 1, 8) := by kernel_rfl
theorem ints_cells {w : World} {a : Addr} {zs : List Int} (h : IntsAt w (some a) zs) : ∀ j u, (zs.map (Value.int .i64))[j]? = some u → w.cell? (a.add j) = some u := h.cells

set_option maxRecDepth 100000 in
set_option maxHeartbeats 1000000 in
theorem cloneI_any (a : Option Addr) (cap : Nat) (zs : List Int) (w : World) (hp : IntsAt w a zs) (hm : zs.length ≤ 1000) :
    Calls Tryz.prog 109 #[.slice a zs.length cap] w (GivesInts zs w) := by
  obtain ⟨i0, hi, hz0, hz1, hz2⟩ := info_parts info_intP
  cases a with
  | none =>
    have hps := hp.none
    subst hps
    have hnil := fun (w : World) => Lib.run_eql_slice_nil (P := Tryz.prog) w 24 3 none 0 cap 0 0 Tryz.underlying24
    clear hp hm
    go_enter Tryz.func109, Tryz.ntmps109
    go_wp2_with fail
    go_ret
    exact ⟨none, 0, rfl, World.ownsRow_nil _ _ _ _, Below.refl _ _⟩
  | some ad =>
    have HC := Lib.hid (ints_cells hp)
    have hnil := fun (w : World) => Lib.run_eql_slice_nil (P := Tryz.prog) w 24 3 (some ad) zs.length cap 0 0 Tryz.underlying24
    have hown := World.ownsRow_lit (base := w.heap.size) (e := 3) (size := 1) w #[] 0 (Nat.le_refl _) (by simp [maxLen]) (by simp)
    clear hp
    have HL := Lib.hid (show (zs.map (Value.int .i64)).length = zs.length * 1 by rw [List.length_map, Nat.mul_one])
    have H1 := Lib.hid (show ∀ u ∈ zs.map (Value.int .i64), u.oneCell' = true from fun u hu => by obtain ⟨x, _, rfl⟩ := List.mem_map.1 hu; rfl)
    generalize hvs : zs.map (Value.int .i64) = vs at HC HL H1
    have HVS := Lib.hid hvs
    clear hvs
    go_enter Tryz.func109, Tryz.ntmps109
    go_wp2_with (at_builtin; (refine wpList_append_own _ rfl (.tmp 5) (.tmp 6) 24 rfl w.heap.size 3 i0 (.int .i64 0) 1 8 Tryz.underlying24 hi hz0 hz1 hz2 rfl (by decide) _ 0 [] rfl hown ad zs.length cap vs rfl ?c1 ?c2 ?c3 ?c4 ?c5 ?c6 ?_))
    case c1 => first | exact HL.out | (have h9 := HL.out; omega)
    case c2 => intro j u hu; exact cell_alloc_keep (HC.out j u hu)
    case c3 => exact H1.out
    case c4 => simp [maxLen]; omega
    case c5 => omega
    intro v' w1 hown1 hgrow _
    have hB : Below w.heap.size w w1 := ((Below.refl _ _).alloc (Nat.le_refl _) _).grown hgrow (by simp) (by rintro k hk; simp [Value.ownBlock] at hk; omega)
    have HO := Lib.hid hown1
    clear hown1 hown hgrow
    go_wp2
    go_ret
    obtain ⟨b, k, rfl⟩ := own_slice HO.out
    have h := HO.out
    rw [← HVS.out] at h
    exact ⟨b, k, rfl, h, hB⟩

theorem own_cases {W : World} {base n k c : Nat} {a : Option Addr} {e : TypeId} {xs : List Value} (h : W.ownsRow base e k (.slice a n c) n xs) : (a = none ∧ n = 0 ∧ c = 0) ∨ ∃ g, a = some ⟨g, 0, none⟩ ∧ base ≤ g ∧ g < W.heap.size := by
  rcases h.2 with ⟨he, hn⟩ | ⟨g, cap, cur, he, hb, hg, _⟩
  · injection he with h1 h2 h3
    exact .inl ⟨h1, hn, h3⟩
  · injection he with h1 h2 h3
    exact .inr ⟨g, h1, hb, hp_lt hg⟩

set_option maxHeartbeats 400000 in
theorem delWo_nil (P : Nat) (F : Int → Bool) (w : World)
    (hC : ∀ n, Calls Tryz.prog 110 #[.int .i64 n, .pointer (some ⟨P, 0, none⟩)] w fun e w' => e = .returned (.bool (F n)) ∧ w = w') :
    Calls Tryz.prog 108 #[.slice none 0 0, .func (.func 110) #[] #[.pointer (some ⟨P, 0, none⟩)]] w fun e w' => e = .returned (.slice none 0 0) ∧ w = w' := by
  have HI := Lib.hid (idxWo_any P F none 0 [] w (.inl rfl) (by decide) hC)
  clear hC
  go_enter Tryz.func108, Tryz.ntmps108
  go_wp2_with fail
  refine HI.out.mono ?_
  rintro e w1 ⟨rfl, rfl⟩
  have h : idxF F [] = -1 := rfl
  rw [h]
  go_wp2_with fail
  go_ret
  exact ⟨rfl, rfl⟩

set_option maxRecDepth 100000 in
set_option maxHeartbeats 1000000 in
theorem without_any (a b : Option Addr) (ca cb : Nat) (zs ys : List Int) (w : World) (hz : IntsAt w a zs) (hy : IntsAt w b ys) (hm : zs.length ≤ 1000) (hn : ys.length ≤ 1000) :
    Calls Tryz.prog 86 #[.slice a zs.length ca, .slice b ys.length cb] w (GivesInts (zs.filter fun n => !hasB ys n) w) := by
  have hB0 : Below w.heap.size w (w.alloc (.cells #[.slice b ys.length cb] 24)) := (Below.refl _ _).alloc (Nat.le_refl _) _
  have HBX := Lib.hid (show (w.alloc (.cells #[.slice b ys.length cb] 24)).heap[w.heap.size]? = some (.cells #[.slice b ys.length cb] 24 (0, 0)) from hp_new rfl)
  have HZ := Lib.hid (hz.below hB0 (Nat.le_refl _))
  have HY := Lib.hid (hy.below hB0 (Nat.le_refl _))
  have HB0 := Lib.hid hB0
  clear hz hy hB0
  go_enter Tryz.func86, Tryz.ntmps86
  go_wp2_with fail
  refine (cloneI_any a ca zs _ HZ.out hm).mono ?_
  rintro e w1 ⟨a1, c1, rfl, ho, hB1⟩
  have hbx := hp_below HBX.out hB1 (hp_lt HBX.out)
  have hw0 : (w.alloc (.cells #[.slice b ys.length cb] 24)).heap.size = w.heap.size + 1 := by simp
  have hPC : ∀ W, Below (w.heap.size + 1) w1 W → ∀ n, Calls Tryz.prog 110 #[.int .i64 n, .pointer (some ⟨w.heap.size, 0, none⟩)] W fun e w' => e = .returned (.bool (hasB ys n)) ∧ W = w' := by
    intro W hW n
    have h1 := hp_below hbx hW (Nat.lt_succ_self _)
    refine without1_any w.heap.size b cb ys n W (hp_cell h1 (by rfl)) ?_ hn
    have hB2 : Below (w.heap.size + 1) (w.alloc (.cells #[.slice b ys.length cb] 24)) W := by rw [hw0] at hB1; exact hB1.trans hW
    exact HY.out.below hB2 (by rw [hw0]; exact Nat.le_refl _)
  have HPC := Lib.hid hPC
  have HB1 := Lib.hid (HB0.out.trans (hB1.mono HB0.out.size))
  have HS1 := Lib.hid (show w.heap.size + 1 ≤ w1.heap.size by have := hB1.size; rw [hw0] at this; exact this)
  rw [hw0] at ho
  rcases own_cases ho with ⟨h1, h2, h3⟩ | ⟨g, h1, h2, h3⟩
  · have h4 : zs = [] := List.eq_nil_of_length_eq_zero h2
    subst h1 h3 h4
    have HD := Lib.hid (delWo_nil w.heap.size (fun n => hasB ys n) w1 (HPC.out w1 (Below.refl _ _)))
    clear ho hB1 hbx hPC h2 hw0
    go_wp2_with fail
    refine HD.out.mono ?_
    rintro e w2 ⟨rfl, rfl⟩
    go_wp2_with fail
    go_ret
    exact ⟨none, 0, rfl, World.ownsRow_nil _ _ _ _, HB1.out⟩
  · subst h1
    have HD := Lib.hid (delWo_any w.heap.size g (w.heap.size + 1) c1 (fun n => hasB ys n) zs w1 ho hm (fun W hW => HPC.out W (hW.below h2 HS1.out)))
    have HG := Lib.hid h2
    clear ho hB1 hbx hPC hw0 h2 h3
    go_wp2_with fail
    refine HD.out.mono ?_
    rintro e w2 ⟨rfl, ho2, hF⟩
    have HO2 := Lib.hid ho2
    have HF := Lib.hid (HB1.out.trans (hF.below (base := w.heap.size) (by have := HG.out; omega) HB1.out.size))
    clear ho2 hF
    go_wp2_with fail
    go_ret
    exact ⟨_, _, rfl, own_mono HO2.out (Nat.le_succ _), HF.out⟩


set_option maxRecDepth 100000 in
set_option maxHeartbeats 1000000 in
theorem pBreaks_any (a g h : Option Addr) (ca cg ch : Nat) (ps : List L) (xs : List E) (ts : List T) (w : World) (hp : LinesAt w a ps) (hx : EditsAt w g xs) (hts : TestsAt w h ts) (hm : xs.length ≤ 1000) (hm2 : ts.length ≤ 1000) (hml : ∀ t ∈ ts, t.inn.length ≤ 1000) (hpl : ps.length ≤ 1000) :
    Calls Tryz.prog 56 #[.slice a ps.length ca, .slice g xs.length cg, .slice h ts.length ch] w (GivesIntsE (trR true ps xs ts) (vpx ps xs (vts ts)) w) := by
  have HV := Lib.hid (fun w h1 h2 h3 => pvalidate_any a g h ca cg ch ps xs ts w h1 h2 h3 hm hm2 hml hpl)
  have HP := Lib.hid hp
  have HX := Lib.hid hx
  have HT := Lib.hid hts
  clear hp hx hts
  by_cases hz : vpx ps xs (vts ts) = 0
  · obtain ⟨v1, v2, v3, v4⟩ := vpx_vpt hz
    have HE := Lib.hid (show trR true ps xs ts = _ from by unfold trR; rw [if_pos hz, ← br_eq v1 v2])
    rw [HE.out, hz]
    rw [hz] at HV
    have HF := Lib.hid (fun w h1 h2 => pfailing_any a h ca ch ps ts w h1 h2 hm2 hml)
    have HD := Lib.hid (fun w h1 h2 => pdo_any a g ca cg ps xs w h1 h2 (vp_ok (okX_of hz).v).1 (okX_of hz).len (okX_of hz).at_)
    have HG := Lib.hid (fun b c w h1 h2 => pfailing_any b h c ch (doL ps xs) ts w h1 h2 hm2 hml)
    have hl1 := pL_le false ps ts
    have hl2 := pL_le false (doL ps xs) ts
    clear hz HE v1 v2 v3 v4
    generalize pL false ps ts = P1 at *
    generalize pL false (doL ps xs) ts = P2 at *
    generalize doL ps xs = q at *
    go_enter Tryz.func56, Tryz.ntmps56
    go_wp2_with fail
    refine (HV.out _ HP.out HX.out HT.out).mono ?_
    rintro e w1 ⟨rfl, hB1⟩
    have HB1 := Lib.hid hB1
    clear hB1 
    go_wp2_with fail
    refine (HD.out _ (HP.out.below HB1.out (Nat.le_refl _)) (HX.out.below HB1.out (Nat.le_refl _))).mono ?_
    rintro e w2 ⟨a2, k2, rfl, h2, hB2⟩
    have R2 := Lib.hid ((lines_of_own h2).1)
    have HB2 := Lib.hid (HB1.out.trans (hB2.mono HB1.out.size))
    clear hB2 h2
    go_wp2_with fail
    refine (HG.out _ _ _ R2.out (HT.out.below HB2.out (Nat.le_refl _))).mono ?_
    rintro e w3 ⟨a3, k3, rfl, h3, hB3⟩
    clear R2
    have R3 := Lib.hid ((ints_of_own h3).1)
    have HB3 := Lib.hid (HB2.out.trans (hB3.mono HB2.out.size))
    clear hB3 h3
    go_wp2_with fail
    refine (HF.out _ (HP.out.below HB3.out (Nat.le_refl _)) (HT.out.below HB3.out (Nat.le_refl _))).mono ?_
    rintro e w4 ⟨a1, k1, rfl, h1, hB4⟩
    have R3 := Lib.hid (R3.out.below hB4 (Nat.le_refl _))
    have R1 := Lib.hid ((ints_of_own h1).1)
    have HB4 := Lib.hid (HB3.out.trans (hB4.mono HB3.out.size))
    clear hB4 h1
    go_wp2_with fail
    refine (without_any _ _ _ _ _ _ _ R3.out R1.out (by omega) (by omega)).mono ?_
    rintro e w5 ⟨a4, k4, rfl, h4, hB5⟩
    clear R3
    clear R1
    have HB5 := Lib.hid (HB4.out.trans (hB5.mono HB4.out.size))
    clear hB5 
    have HO := Lib.hid (own_mono h4 HB4.out.size)
    clear h4
    go_wp2_with fail
    go_ret2
    exact ⟨a4, k4, rfl, HO.out, HB5.out⟩
  · have HE := Lib.hid (show trR true ps xs ts = [] by unfold trR; rw [if_neg hz])
    rw [HE.out]
    generalize vpx ps xs (vts ts) = c at HV hz ⊢
    have hz1 : (c != 0) = true := by simpa using hz
    have hz2 : (c == 0) = false := by simpa using hz
    clear hz HE
    go_enter Tryz.func56, Tryz.ntmps56
    go_wp2_with fail
    refine (HV.out _ HP.out HX.out HT.out).mono ?_
    rintro e w1 ⟨rfl, hB1⟩
    have HB1 := Lib.hid hB1
    clear hB1 
    go_wp2_with fail
    go_ret2
    exact ⟨none, 0, rfl, World.ownsRow_nil _ _ _ _, HB1.out⟩

end Go.Proofs.YtikblaebfpdngaaGreat
