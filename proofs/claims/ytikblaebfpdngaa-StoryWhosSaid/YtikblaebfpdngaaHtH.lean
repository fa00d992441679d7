/- Several texts in one. -/
import Derived.Test.YtikblaebfpdngaaHtD
import Derived.Test.YtikblaebfpdngaaDlI
/- dependsOn, isReady, with and ready of story. -/
set_option linter.unusedVariables false
set_option linter.unusedSimpArgs false
namespace Go.Proofs.Ytikblaebfpdngaa
open Go.RowKit Tinker
/-- A repair is in a set, or needs one that is. -/
def dpB (h : List (List E)) (zs : List Int) (n : Nat) : Bool := hasB zs (n : Int) || (ints (nedN h n)).any (hasB zs)
theorem dpB_lef {h : List (List E)} {s : List Nat} (hs : ∀ m ∈ s, m < h.length) (n : Nat) : dpB h (ints s) n = !lefB h s n := by
  have hh : ∀ m : Nat, hasB (ints s) (m : Int) = s.contains m := fun m => by
    unfold hasB ints
    rw [List.any_map, Bool.eq_iff_iff, List.any_eq_true, List.contains_iff_mem]
    constructor
    · rintro ⟨x, hx, e⟩
      have : x = m := by
        have e2 : ((x : Nat) : Int) = m := by simpa using e
        omega
      subst this; exact hx
    · intro hm; exact ⟨m, hm, by simp⟩
  unfold dpB lefB
  rw [hh, Bool.not_and, Bool.not_not]
  congr 1
  rw [Bool.eq_iff_iff, Bool.not_eq_true', List.all_eq_false, List.any_eq_true]
  unfold nedN
  constructor
  · rintro ⟨x, hx, e⟩
    obtain ⟨m, hm, rfl⟩ := List.mem_map.1 hx
    rw [List.mem_filter] at hm
    have e2 : hasB (ints s) ((m : Nat) : Int) = true := e
    rw [hh, List.contains_iff_mem] at e2
    exact ⟨m, e2, by rw [hm.2]; simp⟩
  · rintro ⟨m, hm, e⟩
    refine ⟨(m : Int), List.mem_map.2 ⟨m, List.mem_filter.2 ⟨List.mem_range.2 (hs m hm), by simpa using e⟩, rfl⟩, ?_⟩
    rw [hh, List.contains_iff_mem]; exact hm
/-- A set of repairs as eight bools. -/
def m8 (s : Nat) : List Bool := l8 fun i => s.testBit i
theorem m8_put (s m : Nat) (hm : m < 8) : (m8 s).set m true = m8 (s ||| 2 ^ m) := by
  unfold m8
  rw [l8_put]
  congr 1
  funext i
  unfold withV
  rw [Nat.testBit_or, Nat.testBit_two_pow]
  congr 1
  rw [Bool.eq_iff_iff, decide_eq_true_eq, decide_eq_true_eq]
  exact eq_comm
theorem m8_get (s : Nat) {i : Nat} (hi : i < 8) : (m8 s).getD i false = s.testBit i := l8_get _ hi
theorem m8_len (s : Nat) : (m8 s).length = 8 := l8_len _
/-- What isReady answers. -/
theorem rdyB_any (h : List (List E)) (s n : Nat) : rdyB h s n = (!s.testBit n && !(ints (dirN h n)).any fun z => !s.testBit z.toNat) := by
  unfold rdyB
  congr 1
  rw [Bool.eq_iff_iff, List.all_eq_true, Bool.not_eq_true', List.any_eq_false]
  unfold ints
  constructor
  · intro a x hx
    obtain ⟨m, hm, rfl⟩ := List.mem_map.1 hx
    have e := a m hm
    show ¬ (!s.testBit ((m : Int).toNat)) = true
    rw [Int.toNat_natCast, e]
    simp
  · intro a m hm
    have e : ¬ (!s.testBit ((m : Int).toNat)) = true := a (m : Int) (List.mem_map.2 ⟨m, hm, rfl⟩)
    rw [Int.toNat_natCast] at e
    simpa using e

set_option maxHeartbeats 400000 in
theorem dep1_any (P : Nat) (b : Option Addr) (cb : Nat) (zs : List Int) (n : Int) (w : World) (hP : w.cell? ⟨P, 0, none⟩ = some (.slice b zs.length cb)) (hz : IntsAt w b zs) (hm : zs.length ≤ 1000) :
    Calls Try.prog 74 #[.int .i64 n, .pointer (some ⟨P, 0, none⟩)] w fun e w' => e = .returned (.bool (hasB zs n)) ∧ w = w' := by
  have HI := Lib.hid (containsI_any b cb zs n w hz hm)
  clear hz
  go_enter Try.func74, Try.ntmps74
  go_wp2_with fail
  refine HI.out.mono ?_
  rintro e w1 ⟨rfl, rfl⟩
  go_wp2_with fail
  go_ret
  exact ⟨rfl, rfl⟩

set_option maxRecDepth 100000 in
set_option maxHeartbeats 1000000 in
theorem idxDep_any (P : Nat) (F : Int → Bool) (a : Option Addr) (c : Nat) (zs : List Int) (w : World) (hz : IntsAt w a zs) (hm : zs.length ≤ 1000)
    (hC : ∀ n ∈ zs, Calls Try.prog 74 #[.int .i64 n, .pointer (some ⟨P, 0, none⟩)] w fun e w' => e = .returned (.bool (F n)) ∧ w = w') :
    Calls Try.prog 94 #[.slice a zs.length c, .func (.func 74) #[] #[.pointer (some ⟨P, 0, none⟩)]] w fun e w' => e = .returned (.int .i64 (idxF F zs)) ∧ w = w' := by
  have HC := Lib.hid hC
  clear hC
  go_enter Try.func94, Try.ntmps94
  go_wp2_with fail
  go_loopw [8] (fun s8 wr => ∃ k : Nat, k ≤ zs.length ∧ s8 = .int .i64 k ∧ (zs.take k).all (fun x => !F x) = true ∧ wr = w) (fun s8 _ => zs.length - (intOf s8).toNat)
  case atStart => exact ⟨0, Nat.zero_le _, rfl, by simp, rfl⟩
  case round =>
    obtain ⟨k, hk, rfl, hall, rfl⟩ := hrel
    have HA := Lib.hid hall
    clear hall
    by_cases hlt : k < zs.length
    · obtain ⟨b, off, x, rfl, hlb, hx, c0⟩ := hz.at_ hlt
      have HX := Lib.hid hx
      have HF := Lib.hid (HC.out x (mem_of_get hx))
      clear hx
      cases hn : F x
      · have HN := Lib.hid (all_snoc (f := fun x => !F x) HA.out HX.out (by simpa using hn))
        rw [hn] at HF
        clear hn
        go_wp2_with fail
        refine HF.out.mono ?_
        rintro e w1 ⟨rfl, rfl⟩
        go_wp2_with fail
        go_roundw
        case rel => exact ⟨k + 1, by omega, by go_num, HN.out, by first | trivial | rfl⟩
        case measure => simp [intOf]; omega
      · have HI := Lib.hid (idxF_at (F := F) HA.out HX.out hn)
        rw [hn] at HF
        clear hn
        go_wp2_with fail
        refine HF.out.mono ?_
        rintro e w1 ⟨rfl, rfl⟩
        go_wp2_with fail
        go_ret
        exact ⟨ret_int HI.out.symm, rfl⟩
    · have HI := Lib.hid (idxF_none (F := F) (all_whole HA.out hlt))
      go_wp2_with fail
      go_ret
      exact ⟨ret_int HI.out.symm, rfl⟩
set_option maxHeartbeats 400000 in
theorem hasDep_any (P : Nat) (F : Int → Bool) (a : Option Addr) (c : Nat) (zs : List Int) (w : World) (hz : IntsAt w a zs) (hm : zs.length ≤ 1000)
    (hC : ∀ n ∈ zs, Calls Try.prog 74 #[.int .i64 n, .pointer (some ⟨P, 0, none⟩)] w fun e w' => e = .returned (.bool (F n)) ∧ w = w') :
    Calls Try.prog 76 #[.slice a zs.length c, .func (.func 74) #[] #[.pointer (some ⟨P, 0, none⟩)]] w fun e w' => e = .returned (.bool (zs.any F)) ∧ w = w' := by
  rw [← idx_any F zs]
  have HI := Lib.hid (idxDep_any P F a c zs w hz hm hC)
  clear hz hC
  generalize idxF F zs = r at HI ⊢
  go_enter Try.func76, Try.ntmps76
  go_wp2_with fail
  refine HI.out.mono ?_
  rintro e w1 ⟨rfl, rfl⟩
  go_wp2_with fail
  go_ret
  exact ⟨rfl, rfl⟩

set_option maxRecDepth 100000 in
set_option maxHeartbeats 2000000 in
theorem dependsOn_any (g b : Option Addr) (cg cb : Nat) (h : List (List E)) (zs : List Int) (n : Nat) (w : World) (hh : RowsEAt w g h) (hz : IntsAt w b zs) (h8 : h.length ≤ 8) (hm : ∀ x ∈ h, x.length ≤ 1000) (hn : n < h.length) (hl : zs.length ≤ 1000) :
    Calls Try.prog 56 #[.slice g h.length cg, .int .i64 n, .slice b zs.length cb] w fun e w' => e = .returned (.bool (dpB h zs n)) ∧ Below w.heap.size w w' := by
  have hbel : Below w.heap.size w (w.alloc (.cells #[.slice b zs.length cb] 35)) := (Below.refl _ _).alloc (Nat.le_refl _) _
  have hc : (w.alloc (.cells #[.slice b zs.length cb] 35)).cell? ⟨w.heap.size, 0, none⟩ = some (.slice b zs.length cb) := hp_cell (hp_new rfl) (j := 0) rfl
  have hsz : w.heap.size < (w.alloc (.cells #[.slice b zs.length cb] 35)).heap.size := by simp
  have hnl : (nedN h n).length ≤ 8 := by
    unfold nedN
    have := List.length_filter_le (ndB h n) (List.range h.length)
    rw [List.length_range] at this
    omega
  generalize hw0 : w.alloc (.cells #[.slice b zs.length cb] 35) = w0 at *
  have HW0 := Lib.hid hw0
  have H1 := Lib.hid (dep1_any w.heap.size b cb zs n w0 hc (hz.below hbel (Nat.le_refl _)) hl)
  have HR := Lib.hid (reachedN_any g cg h n w0 (hh.below hbel (Nat.le_refl _)) h8 hm hn)
  have H2 := Lib.hid (fun W (hB : Below w0.heap.size w0 W) a c hi => hasDep_any w.heap.size (hasB zs) a c (ints (nedN h n)) W hi (by rw [ints_len]; omega) (fun m _ => dep1_any w.heap.size b cb zs m W ((hB.cell (p := ⟨w.heap.size, 0, none⟩) hsz).trans hc) ((hz.below hbel (Nat.le_refl _)).below hB (Nat.le_refl _)) hl))
  have HB := Lib.hid hbel
  have HD := Lib.hid (show dpB h zs n = (hasB zs (n : Int) || (ints (nedN h n)).any (hasB zs)) from rfl)
  rw [HD.out]
  obtain ⟨I, hI⟩ : ∃ I, hasB zs (n : Int) = I := ⟨_, rfl⟩
  rw [hI] at H1 ⊢
  generalize ints (nedN h n) = ns at *
  generalize ns.any (hasB zs) = J at *
  clear hh hz hbel hc hw0 HD hI hsz hnl
  cases I
  · go_enter Try.func56, Try.ntmps56
    go_upto_region 2 with fail
    rw [HW0.out]
    go_wp2_with fail
    refine H1.out.mono ?_
    rintro e w1 ⟨rfl, rfl⟩
    go_wp2_with fail
    refine HR.out.mono ?_
    rintro e w2 ⟨a2, c2, rfl, ho, hB⟩
    have HI := Lib.hid (ints_of_own ho).1
    have HB2 := Lib.hid hB
    clear ho hB
    go_wp2_with fail
    refine (H2.out _ HB2.out _ _ HI.out).mono ?_
    rintro e w3 ⟨rfl, rfl⟩
    go_wp2_with fail
    go_ret
    exact ⟨rfl, HB.out.trans (HB2.out.mono HB.out.size)⟩
  · go_enter Try.func56, Try.ntmps56
    go_upto_region 2 with fail
    rw [HW0.out]
    go_wp2_with fail
    refine H1.out.mono ?_
    rintro e w1 ⟨rfl, rfl⟩
    go_wp2_with fail
    go_ret
    exact ⟨rfl, HB.out⟩

set_option maxHeartbeats 400000 in
theorem rdy1_any (P s : Nat) (m : Nat) (w : World) (t : TypeId) (hP : w.heap[P]? = some (.cells (bv (m8 s)) t (0, 0))) (hm : m < 8) :
    Calls Try.prog 107 #[.int .i64 m, .pointer (some ⟨P, 0, none⟩)] w fun e w' => e = .returned (.bool (!s.testBit m)) ∧ w = w' := by
  have d0 := hp_cell hP (bv_get (m8 s) m (by rw [m8_len]; exact hm))
  rw [m8_get s hm] at d0
  obtain ⟨I, hI⟩ : ∃ I, s.testBit m = I := ⟨_, rfl⟩
  rw [hI] at d0 ⊢
  clear hP hI
  cases I <;>
  · go_enter Try.func107, Try.ntmps107
    go_wp2_with fail
    go_ret
    exact ⟨rfl, rfl⟩

set_option maxRecDepth 100000 in
set_option maxHeartbeats 1000000 in
theorem idxRdy_any (P : Nat) (F : Int → Bool) (a : Option Addr) (c : Nat) (zs : List Int) (w : World) (hz : IntsAt w a zs) (hm : zs.length ≤ 1000)
    (hC : ∀ n ∈ zs, Calls Try.prog 107 #[.int .i64 n, .pointer (some ⟨P, 0, none⟩)] w fun e w' => e = .returned (.bool (F n)) ∧ w = w') :
    Calls Try.prog 94 #[.slice a zs.length c, .func (.func 107) #[] #[.pointer (some ⟨P, 0, none⟩)]] w fun e w' => e = .returned (.int .i64 (idxF F zs)) ∧ w = w' := by
  have HC := Lib.hid hC
  clear hC
  go_enter Try.func94, Try.ntmps94
  go_wp2_with fail
  go_loopw [8] (fun s8 wr => ∃ k : Nat, k ≤ zs.length ∧ s8 = .int .i64 k ∧ (zs.take k).all (fun x => !F x) = true ∧ wr = w) (fun s8 _ => zs.length - (intOf s8).toNat)
  case atStart => exact ⟨0, Nat.zero_le _, rfl, by simp, rfl⟩
  case round =>
    obtain ⟨k, hk, rfl, hall, rfl⟩ := hrel
    have HA := Lib.hid hall
    clear hall
    by_cases hlt : k < zs.length
    · obtain ⟨b, off, x, rfl, hlb, hx, c0⟩ := hz.at_ hlt
      have HX := Lib.hid hx
      have HF := Lib.hid (HC.out x (mem_of_get hx))
      clear hx
      cases hn : F x
      · have HN := Lib.hid (all_snoc (f := fun x => !F x) HA.out HX.out (by simpa using hn))
        rw [hn] at HF
        clear hn
        go_wp2_with fail
        refine HF.out.mono ?_
        rintro e w1 ⟨rfl, rfl⟩
        go_wp2_with fail
        go_roundw
        case rel => exact ⟨k + 1, by omega, by go_num, HN.out, by first | trivial | rfl⟩
        case measure => simp [intOf]; omega
      · have HI := Lib.hid (idxF_at (F := F) HA.out HX.out hn)
        rw [hn] at HF
        clear hn
        go_wp2_with fail
        refine HF.out.mono ?_
        rintro e w1 ⟨rfl, rfl⟩
        go_wp2_with fail
        go_ret
        exact ⟨ret_int HI.out.symm, rfl⟩
    · have HI := Lib.hid (idxF_none (F := F) (all_whole HA.out hlt))
      go_wp2_with fail
      go_ret
      exact ⟨ret_int HI.out.symm, rfl⟩
set_option maxHeartbeats 400000 in
theorem hasRdy_any (P : Nat) (F : Int → Bool) (a : Option Addr) (c : Nat) (zs : List Int) (w : World) (hz : IntsAt w a zs) (hm : zs.length ≤ 1000)
    (hC : ∀ n ∈ zs, Calls Try.prog 107 #[.int .i64 n, .pointer (some ⟨P, 0, none⟩)] w fun e w' => e = .returned (.bool (F n)) ∧ w = w') :
    Calls Try.prog 76 #[.slice a zs.length c, .func (.func 107) #[] #[.pointer (some ⟨P, 0, none⟩)]] w fun e w' => e = .returned (.bool (zs.any F)) ∧ w = w' := by
  rw [← idx_any F zs]
  have HI := Lib.hid (idxRdy_any P F a c zs w hz hm hC)
  clear hz hC
  generalize idxF F zs = r at HI ⊢
  go_enter Try.func76, Try.ntmps76
  go_wp2_with fail
  refine HI.out.mono ?_
  rintro e w1 ⟨rfl, rfl⟩
  go_wp2_with fail
  go_ret
  exact ⟨rfl, rfl⟩

set_option maxRecDepth 100000 in
set_option maxHeartbeats 2000000 in
theorem isReady_any (g : Option Addr) (cg : Nat) (h : List (List E)) (s n : Nat) (w : World) (hh : RowsEAt w g h) (h8 : h.length ≤ 8) (hm : ∀ x ∈ h, x.length ≤ 1000) (hn : n < h.length) :
    Calls Try.prog 96 #[.slice g h.length cg, .agg (bv (m8 s)), .int .i64 n] w fun e w' => e = .returned (.bool (rdyB h s n)) ∧ Below w.heap.size w w' := by
  have hbel : Below w.heap.size w (w.alloc (.cells (bv (m8 s)) 97)) := (Below.refl _ _).alloc (Nat.le_refl _) _
  have hc := heap_new w (.cells (bv (m8 s)) 97)
  have hsz : w.heap.size < (w.alloc (.cells (bv (m8 s)) 97)).heap.size := by simp
  have hdl : ∀ z ∈ ints (dirN h n), ∃ m : Nat, m < 8 ∧ z = (m : Int) := fun z hz => by
    obtain ⟨m, hm, rfl⟩ := List.mem_map.1 hz
    have := (dirN_mem.1 hm).1
    exact ⟨m, by omega, rfl⟩
  have hdn : (ints (dirN h n)).length ≤ 8 := by
    rw [ints_len]
    unfold dirN
    have := List.length_filter_le (fun m => touH (rpA h m) (rpA h n)) (List.range n)
    rw [List.length_range] at this
    omega
  generalize hw0 : w.alloc (.cells (bv (m8 s)) 97) = w0 at *
  have HW0 := Lib.hid hw0
  have hn8 : n < 8 := by omega
  have d0 := hp_cell hc (bv_get (m8 s) n (by rw [m8_len]; exact hn8))
  rw [m8_get s hn8] at d0
  have HN := Lib.hid (needs_any g cg h n w0 (hh.below hbel (Nat.le_refl _)) hn (by omega) hm)
  have H2 := Lib.hid (fun W (hB : Below w0.heap.size w0 W) a c hi => hasRdy_any w.heap.size (fun z => !s.testBit z.toNat) a c (ints (dirN h n)) W hi (by omega) (fun z hz => by
    obtain ⟨m, hm8, rfl⟩ := hdl z hz
    have := rdy1_any w.heap.size s m W _ (hp_below hc hB hsz) hm8
    rw [Int.toNat_natCast]
    exact this))
  have HB := Lib.hid hbel
  have HD := Lib.hid (rdyB_any h s n)
  rw [HD.out]
  obtain ⟨I, hI⟩ : ∃ I, s.testBit n = I := ⟨_, rfl⟩
  rw [hI] at d0 ⊢
  generalize ints (dirN h n) = ns at *
  generalize (ns.any fun z => !s.testBit z.toNat) = J at *
  clear hh hbel hc hw0 HD hI hdl
  unfold bv at HW0 ⊢
  obtain ⟨cs, hcs⟩ : ∃ cs, cs = (List.map Value.bool (m8 s)).toArray := ⟨_, rfl⟩
  rw [← hcs] at HW0 ⊢
  clear hcs
  cases I
  · go_enter Try.func96, Try.ntmps96
    go_upto_region 1 with fail
    rw [HW0.out]
    go_wp2_with fail
    refine HN.out.mono ?_
    rintro e w2 ⟨a2, c2, rfl, ho, hB⟩
    have HI := Lib.hid (ints_of_own ho).1
    have HB2 := Lib.hid hB
    clear ho hB
    go_wp2_with fail
    refine (H2.out _ HB2.out _ _ HI.out).mono ?_
    rintro e w3 ⟨rfl, rfl⟩
    go_wp2_with fail
    go_ret
    exact ⟨rfl, HB.out.trans (HB2.out.mono HB.out.size)⟩
  · go_enter Try.func96, Try.ntmps96
    go_upto_region 1 with fail
    rw [HW0.out]
    go_wp2_with fail
    go_ret
    exact ⟨rfl, HB.out⟩

end Go.Proofs.Ytikblaebfpdngaa

/- with and ready of story. -/
set_option linter.unusedVariables false
set_option linter.unusedSimpArgs false
namespace Tinker
/-- Bools of a test, the first k of them asked. -/
def askL (p : Nat → Bool) (n k : Nat) : List Bool := (List.range n).map fun i => decide (i < k) && p i
theorem askL_len (p : Nat → Bool) (n k : Nat) : (askL p n k).length = n := by simp [askL]
theorem askL_get (p : Nat → Bool) {n k i : Nat} (hi : i < n) : (askL p n k).getD i false = (decide (i < k) && p i) := by
  unfold askL
  rw [List.getD_eq_getElem?_getD, List.getElem?_map, List.getElem?_range hi]
  rfl
theorem askL_0 (p : Nat → Bool) (n : Nat) : askL p n 0 = List.replicate n false := by
  refine List.ext_getElem? fun i => ?_
  unfold askL
  rcases Nat.lt_or_ge i n with h | h
  · rw [List.getElem?_map, List.getElem?_range h, List.getElem?_replicate, if_pos h]
    simp
  · rw [List.getElem?_eq_none (by simpa using h), List.getElem?_eq_none (by simpa using h)]
theorem askL_put (p : Nat → Bool) (n k : Nat) : (askL p n k).set k (p k) = askL p n (k + 1) := by
  refine List.ext_getElem? fun i => ?_
  unfold askL
  rcases Nat.lt_or_ge i n with h | h
  · rw [List.getElem?_set, List.getElem?_map, List.getElem?_map, List.getElem?_range h]
    by_cases hk : k = i
    · subst hk
      rw [if_pos rfl, if_pos (by simpa using h)]
      simp
    · rw [if_neg hk]
      have h1 : decide (i < k + 1) = decide (i < k) := by rw [decide_eq_decide]; omega
      simp [h1]
  · rw [List.getElem?_eq_none (by simpa using h), List.getElem?_eq_none (by simpa using h)]
theorem askL_all (p : Nat → Bool) (n : Nat) : plc (askL p n n) = ints ((List.range n).filter p) :=
  plc_ints (askL_len p n n) fun i hi => by rw [askL_get p hi, decide_eq_true hi, Bool.true_and]
end Tinker
namespace Go.Proofs.Ytikblaebfpdngaa
open Go.RowKit Tinker

theorem info_done : (Try.prog.info? 97).map (·.size) = some 8 := by kernel_rfl
theorem info_done8 (l : List Bool) (hl : l.length = 8) : (Try.prog.info? 97).map (·.size) = some (bv l).size := by rw [bv_size, hl]; exact info_done
theorem zero8 : (#[Value.bool false, .bool false, .bool false, .bool false, .bool false, .bool false, .bool false, .bool false] : Array Value) = bv (List.replicate 8 false) := rfl

set_option maxRecDepth 100000 in
set_option maxHeartbeats 1000000 in
theorem with_any (s n : Nat) (w : World) (hn : n < 8) :
    Calls Try.prog 83 #[.agg (bv (m8 s)), .int .i64 n] w fun e w' => e = .returned (.agg (bv (m8 (s ||| 2 ^ n)))) ∧ Below w.heap.size w w' := by
  have hc := heap_new w (.cells (bv (m8 s)) 97)
  have hbel : Below w.heap.size w (w.alloc (.cells (bv (m8 s)) 97)) := (Below.refl _ _).alloc (Nat.le_refl _) _
  have hsz : (w.alloc (.cells (bv (m8 s)) 97)).heap.size = w.heap.size + 1 := by simp
  generalize hw0 : w.alloc (.cells (bv (m8 s)) 97) = w0 at *
  have hr := heap_new w0 (.cells (bv (List.replicate 8 false)) 97)
  rw [hsz] at hr
  have hc1 := hp_below hc ((Below.refl w0.heap.size w0).alloc (Nat.le_refl _) (.cells (bv (List.replicate 8 false)) 97)) (by omega)
  have hB1 : Below w.heap.size w (w0.alloc (.cells (bv (List.replicate 8 false)) 97)) := hbel.alloc (by omega) _
  generalize hw1 : w0.alloc (.cells (bv (List.replicate 8 false)) 97) = w1 at *
  have d0 := hp_free hc1 n
  have d1 := hp_cell hc1 (bv_get (m8 s) n (by rw [m8_len]; exact hn))
  have hc2 := hp_put hc1 n (.bool true)
  rw [bv_set, m8_put s n hn] at hc2
  have hF := Off.setCell w.heap.size w1 n (.bool true)
  have hr2 := (hF.block (w.heap.size + 1) (hp_lt hr) (by omega)).trans hr
  have hB2 := hB1.setCell (p := ⟨w.heap.size, n, none⟩) (Nat.le_refl _) (.bool true)
  have HW := Lib.hid hw0
  have HW1 := Lib.hid hw1
  have H0 := Lib.hid hsz
  have HI := Lib.hid (info_done8 (m8 (s ||| 2 ^ n)) (m8_len _))
  have HZ := Lib.hid (show (bv (m8 (s ||| 2 ^ n))).size = (bv (List.replicate 8 false)).size by rw [bv_size, bv_size, m8_len]; rfl)
  have HC2 := Lib.hid hc2
  have HR2 := Lib.hid hr2
  have HB2 := Lib.hid hB2
  have HO := Lib.hid (bv_one (m8 (s ||| 2 ^ n)))
  generalize m8 (s ||| 2 ^ n) = q at *
  clear hw0 hw1 hc hbel hsz hr hc1 hB1 hc2 hF hr2 hB2
  go_enter Try.func83, Try.ntmps83
  go_upto_region 1 with fail
  try rw [zero8]
  rw [HW.out]
  try rw [H0.out]
  rw [HW1.out]
  go_upto_region 2 with fail
  generalize World.setCell _ _ _ = w2 at *
  have hq := HR2.out
  go_wp2_with (first | (refine wpList_load_row rfl 97 (.tmp 2) rfl w.heap.size rfl 97 _ (0, 0) _ HC2.out Try.underlying97 rfl HI.out ?_) | (refine wpList_store_row rfl 97 (.tmp 4) (.tmp 7) rfl (w.heap.size + 1) _ rfl rfl 97 _ HR2.out HI.out HZ.out.symm HO.out ?_))
  refine bodyPost_ret (v := .agg (bv q)) ?_ rfl ?_
  case refine_2 => exact ⟨rfl, below_setRow HB2.out (by omega) _⟩
  refine results_cell_row (p := 4) (ty := 97) rfl _ _ (w.heap.size + 1) 97 _ (0, 0) _ ?_ (setRow_heap _ _ _ _ _ _ HR2.out) Try.underlying97 rfl HI.out
  simp [Act.put]

/-- What ready leans on: who is done, the answers so far. -/
structure RdyI (s : Nat) (bs : List Bool) (w W : World) : Prop where
  bd : W.heap[w.heap.size]? = some (.cells (bv (m8 s)) 97 (0, 0))
  bm : W.heap[w.heap.size + 1]? = some (.cells (bv bs) 4 (0, 0))
  below : Below w.heap.size w W
theorem RdyI.low {s : Nat} {bs : List Bool} {w W W' : World} (h : RdyI s bs w W) (hb : Below W.heap.size W W') : RdyI s bs w W' :=
  ⟨hp_below h.bd hb (hp_lt h.bd), hp_below h.bm hb (hp_lt h.bm), h.below.trans (hb.mono h.below.size)⟩
theorem RdyI.put {s : Nat} {bs : List Bool} {w W : World} (h : RdyI s bs w W) (j : Nat) (y : Bool) : RdyI s (bs.set j y) w (W.setCell ⟨w.heap.size + 1, j, none⟩ (.bool y)) := by
  have ho := Off.setCell (w.heap.size + 1) W j (.bool y)
  refine ⟨(ho.block _ (hp_lt h.bd) (by omega)).trans h.bd, by rw [← bv_set]; exact hp_put h.bm _ _, h.below.trans (ho.below (by omega) (by have := hp_lt h.bm; omega))⟩

set_option maxRecDepth 100000 in
set_option maxHeartbeats 2000000 in
theorem ready_any (g : Option Addr) (cg : Nat) (h : List (List E)) (s : Nat) (w : World) (hh : RowsEAt w g h) (h8 : h.length ≤ 8) (hm : ∀ x ∈ h, x.length ≤ 1000) :
    Calls Try.prog 82 #[.slice g h.length cg, .agg (bv (m8 s))] w (GivesInts (ints (rdyL h s)) w) := by
  have hmk := mkBools h.length h8
  have hc := heap_new w (.cells (bv (m8 s)) 97)
  have hbel : Below w.heap.size w (w.alloc (.cells (bv (m8 s)) 97)) := (Below.refl _ _).alloc (Nat.le_refl _) _
  have hsz : (w.alloc (.cells (bv (m8 s)) 97)).heap.size = w.heap.size + 1 := by simp
  generalize hw0 : w.alloc (.cells (bv (m8 s)) 97) = w0 at *
  have HI0 := Lib.hid (show RdyI s (askL (rdyB h s) h.length 0) w (w0.alloc (.cells (bv (List.replicate h.length false)) 4)) from ⟨hp_below hc ((Below.refl w0.heap.size w0).alloc (Nat.le_refl _) _) (by omega), by rw [askL_0, ← hsz]; exact heap_new _ _, hbel.alloc (by omega) _⟩)
  have HW := Lib.hid hw0
  have HS := Lib.hid hsz
  have HH := Lib.hid hh
  have HM := Lib.hid hm
  have HI := Lib.hid (info_done8 (m8 s) (m8_len _))
  have HRL := Lib.hid (show plc (askL (rdyB h s) h.length h.length) = ints (rdyL h s) from askL_all _ _)
  have HR := Lib.hid (fun n W (h1 : RowsEAt W g h) hn => isReady_any g cg h s n W h1 h8 hm hn)
  clear hc hbel hw0 hsz hh hm
  go_enter Try.func82, Try.ntmps82
  go_upto_region 1 with fail
  rw [HW.out]
  go_upto_region 2 with fail
  try rw [HS.out]
  generalize w0.alloc (.cells (bv (List.replicate h.length false)) 4) = w1 at *
  clear hmk
  go_wp2_with fail
  go_loopw [12] (fun s12 wr => ∃ k : Nat, k ≤ h.length ∧ s12 = .int .i64 k ∧ RdyI s (askL (rdyB h s) h.length k) w wr) (fun s12 _ => h.length - (intOf s12).toNat)
  case atStart => exact ⟨0, Nat.zero_le _, rfl, HI0.out⟩
  case round =>
    obtain ⟨k, hk, rfl, hI⟩ := hrel
    have HI1 := Lib.hid hI
    clear hI HI0
    by_cases hlt : k < h.length
    · have HC := Lib.hid (HR.out k wr (HH.out.below HI1.out.below (Nat.le_refl _)) hlt)
      have HP := Lib.hid (askL_put (rdyB h s) h.length k)
      generalize rdyB h s k = I at HC HP
      go_wp2_with (refine wpList_load_row rfl 97 (.tmp 3) rfl w.heap.size rfl 97 _ (0, 0) _ HI1.out.bd Try.underlying97 rfl HI.out ?_)
      refine HC.out.mono ?_
      rintro e w3 ⟨rfl, hB⟩
      have HI3 := Lib.hid (HI1.out.low hB)
      have d0 := hp_free HI3.out.bm k
      have d1 := hp_cell HI3.out.bm (bv_get (askL (rdyB h s) h.length k) k (by rw [askL_len]; exact hlt))
      have HI4 := Lib.hid (HI3.out.put k I)
      rw [HP.out] at HI4
      clear hB
      go_wp2_with fail
      go_roundw
      case rel => exact ⟨k + 1, by omega, by go_num, HI4.out⟩
      case measure => simp [intOf]; omega
    · obtain rfl : k = h.length := by omega
      have HP := Lib.hid (places_any (w.heap.size + 1) 0 h.length (askL (rdyB h s) h.length h.length) wr (bools8_at HI1.out.bm) (hp_lt HI1.out.bm) (by rw [askL_len]; omega))
      rw [HRL.out, askL_len] at HP
      go_wp2_with fail
      refine HP.out.mono ?_
      intro e w3 hG
      obtain ⟨a3, c3, rfl, ho, hB⟩ := hG
      have HO := Lib.hid (own_mono ho HI1.out.below.size)
      have HB := Lib.hid (HI1.out.below.trans (hB.mono HI1.out.below.size))
      clear ho hB
      go_wp2_with fail
      go_ret
      exact ⟨a3, c3, rfl, HO.out, HB.out⟩

end Go.Proofs.Ytikblaebfpdngaa
