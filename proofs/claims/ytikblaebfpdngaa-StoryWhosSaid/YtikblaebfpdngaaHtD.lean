/- Several texts in one. -/
import Derived.Test.YtikblaebfpdngaaHtM
import Derived.Test.YtikblaebfpdngaaDlI
import Derived.Test.YtikblaebfpdngaaPtW
import Derived.Test.YtikblaebfpdngaaPtS
import Derived.Deep.RegionHeld3
import Derived.Test.YtikblaebfpdngaaRunC
/- touches and meet of story: closures over edits. -/
set_option linter.unusedVariables false
set_option linter.unusedSimpArgs false
namespace Go.Proofs.Ytikblaebfpdngaa
open Go.RowKit Tinker

/-- An edit as a value. -/
def ev (e : E) : Value := .agg #[.int .i64 e.at_, .int .i64 e.ln.op, .int .i64 e.ln.to, .int .i64 e.ln.a, .int .i64 e.ln.b]
theorem idx_any {α : Type} (F : α → Bool) (zs : List α) : decide (0 ≤ idxF F zs) = zs.any F := by
  rcases idxF_cases F zs with ⟨h1, h2⟩ | ⟨k, x, h1, h2, h3, _⟩
  · rw [h1]
    have : zs.any F = false := by
      rw [List.any_eq_false]
      intro x hx hF
      have := List.filter_eq_self.1 h2 x hx
      rw [hF] at this
      cases this
    rw [this]
    rfl
  · rw [h1]
    have : zs.any F = true := List.any_eq_true.2 ⟨x, mem_of_get h2, h3⟩
    rw [this]
    simp

set_option maxHeartbeats 400000 in
theorem tch1_any (P : Nat) (n : Int) (e : E) (w : World) (hP : w.cell? ⟨P, 0, none⟩ = some (.int .i64 n)) :
    Calls Try.prog 78 #[ev e, .pointer (some ⟨P, 0, none⟩)] w fun ex w' => ex = .returned (.bool (e.at_ == n)) ∧ Below w.heap.size w w' := by
  have hPl : P < w.heap.size := World.block_lt_of_cell? w _ hP
  have HB0 := Lib.hid (show Below w.heap.size w (w.alloc (.cells #[.int .i64 e.at_, .int .i64 e.ln.op, .int .i64 e.ln.to, .int .i64 e.ln.a, .int .i64 e.ln.b] 50)) from (Below.refl _ _).alloc (Nat.le_refl _) _)
  unfold ev
  go_enter Try.func78, Try.ntmps78
  go_wp2_with fail
  go_ret
  exact ⟨rfl, HB0.out⟩

set_option maxRecDepth 100000 in
set_option maxHeartbeats 1000000 in
theorem idxTch_any (P : Nat) (F : E → Bool) (a : Option Addr) (c : Nat) (zs : List E) (w : World) (hz : EditsAt w a zs) (hm : zs.length ≤ 1000)
    (hC : ∀ W, Below w.heap.size w W → ∀ n, Calls Try.prog 78 #[ev n, .pointer (some ⟨P, 0, none⟩)] W fun e w' => e = .returned (.bool (F n)) ∧ Below W.heap.size W w') :
    Calls Try.prog 95 #[.slice a zs.length c, .func (.func 78) #[] #[.pointer (some ⟨P, 0, none⟩)]] w fun e w' => e = .returned (.int .i64 (idxF F zs)) ∧ Below w.heap.size w w' := by
  have HC := Lib.hid hC
  have HZ := Lib.hid hz
  clear hC hz
  unfold ev at HC
  go_enter Try.func95, Try.ntmps95
  go_wp2_with fail
  go_loopw [8] (fun s8 wr => ∃ k : Nat, k ≤ zs.length ∧ s8 = .int .i64 k ∧ (zs.take k).all (fun x => !F x) = true ∧ Below w.heap.size w wr) (fun s8 _ => zs.length - (intOf s8).toNat)
  case atStart => exact ⟨0, Nat.zero_le _, rfl, by simp, Below.refl _ _⟩
  case round =>
    obtain ⟨k, hk, rfl, hall, hB⟩ := hrel
    have HA := Lib.hid hall
    have HB := Lib.hid hB
    clear hall hB
    by_cases hlt : k < zs.length
    · obtain ⟨b, off, x, rfl, hlb, hx, c0, c1, c2, c3, c4⟩ := (HZ.out.below HB.out (Nat.le_refl _)).at_ hlt
      have HX := Lib.hid hx
      have HF := Lib.hid (HC.out wr HB.out x)
      clear hx
      cases hn : F x
      · have HN := Lib.hid (all_snoc (f := fun x => !F x) HA.out HX.out (by simpa using hn))
        rw [hn] at HF
        clear hn
        go_wp2_with fail
        refine HF.out.mono ?_
        rintro e w1 ⟨rfl, hB1⟩
        have HB1 := Lib.hid (HB.out.trans (hB1.mono HB.out.size))
        clear hB1 c0 c1 c2 c3 c4
        go_wp2_with fail
        go_roundw
        case rel => exact ⟨k + 1, by omega, by go_num, HN.out, HB1.out⟩
        case measure => simp [intOf]; omega
      · have HI := Lib.hid (idxF_at (F := F) HA.out HX.out hn)
        rw [hn] at HF
        clear hn
        go_wp2_with fail
        refine HF.out.mono ?_
        rintro e w1 ⟨rfl, hB1⟩
        have HB1 := Lib.hid (HB.out.trans (hB1.mono HB.out.size))
        clear hB1 c0 c1 c2 c3 c4
        go_wp2_with fail
        go_ret
        exact ⟨ret_int HI.out.symm, HB1.out⟩
    · have HI := Lib.hid (idxF_none (F := F) (all_whole HA.out hlt))
      go_wp2_with fail
      go_ret
      exact ⟨ret_int HI.out.symm, HB.out⟩
set_option maxHeartbeats 400000 in
theorem hasTch_any (P : Nat) (F : E → Bool) (a : Option Addr) (c : Nat) (zs : List E) (w : World) (hz : EditsAt w a zs) (hm : zs.length ≤ 1000)
    (hC : ∀ W, Below w.heap.size w W → ∀ n, Calls Try.prog 78 #[ev n, .pointer (some ⟨P, 0, none⟩)] W fun e w' => e = .returned (.bool (F n)) ∧ Below W.heap.size W w') :
    Calls Try.prog 77 #[.slice a zs.length c, .func (.func 78) #[] #[.pointer (some ⟨P, 0, none⟩)]] w fun e w' => e = .returned (.bool (zs.any F)) ∧ Below w.heap.size w w' := by
  rw [← idx_any F zs]
  have HI := Lib.hid (idxTch_any P F a c zs w hz hm hC)
  clear hz hC
  generalize idxF F zs = r at HI ⊢
  go_enter Try.func77, Try.ntmps77
  go_wp2_with fail
  refine HI.out.mono ?_
  rintro e w1 ⟨rfl, hB⟩
  go_wp2_with fail
  go_ret
  exact ⟨rfl, hB⟩

set_option maxHeartbeats 400000 in
theorem touches_any (a : Option Addr) (c : Nat) (zs : List E) (n : Int) (w : World) (hz : EditsAt w a zs) (hm : zs.length ≤ 1000) :
    Calls Try.prog 59 #[.slice a zs.length c, .int .i64 n] w fun e w' => e = .returned (.bool (zs.any fun x => x.at_ == n)) ∧ Below w.heap.size w w' := by
  have HB0 := Lib.hid (show Below w.heap.size w (w.alloc (.cells #[.int .i64 n] 3)) from (Below.refl _ _).alloc (Nat.le_refl _) _)
  have HC := Lib.hid (hasTch_any w.heap.size (fun x => x.at_ == n) a c zs (w.alloc (.cells #[.int .i64 n] 3)) (hz.below HB0.out (Nat.le_refl _)) hm
    (fun W hW x => tch1_any w.heap.size n x W ((hW.cell (p := ⟨w.heap.size, 0, none⟩) (by simp)).trans (hp_cell (hp_new rfl) (j := 0) rfl))))
  clear hz
  go_enter Try.func59, Try.ntmps59
  go_wp2_with fail
  refine HC.out.mono ?_
  rintro e w1 ⟨rfl, hB⟩
  go_wp2_with fail
  go_ret
  exact ⟨rfl, HB0.out.trans (hB.mono HB0.out.size)⟩

set_option maxHeartbeats 400000 in
theorem meet1_any (P : Nat) (b : Option Addr) (cb : Nat) (ys : List E) (e : E) (w : World) (hP : w.cell? ⟨P, 0, none⟩ = some (.slice b ys.length cb)) (hy : EditsAt w b ys) (hm : ys.length ≤ 1000) :
    Calls Try.prog 92 #[ev e, .pointer (some ⟨P, 0, none⟩)] w fun ex w' => ex = .returned (.bool (ys.any fun x => x.at_ == e.at_)) ∧ Below w.heap.size w w' := by
  have hPl : P < w.heap.size := World.block_lt_of_cell? w _ hP
  have HB0 := Lib.hid (show Below w.heap.size w (w.alloc (.cells #[.int .i64 e.at_, .int .i64 e.ln.op, .int .i64 e.ln.to, .int .i64 e.ln.a, .int .i64 e.ln.b] 50)) from (Below.refl _ _).alloc (Nat.le_refl _) _)
  have HT := Lib.hid (fun W hy => touches_any b cb ys e.at_ W hy hm)
  have HY := Lib.hid (hy.below HB0.out (Nat.le_refl _))
  clear hy
  unfold ev
  go_enter Try.func92, Try.ntmps92
  go_wp2_with fail
  refine (HT.out _ HY.out).mono ?_
  rintro e w1 ⟨rfl, hB⟩
  go_wp2_with fail
  go_ret
  exact ⟨rfl, HB0.out.trans (hB.mono HB0.out.size)⟩

set_option maxRecDepth 100000 in
set_option maxHeartbeats 1000000 in
theorem idxMet_any (P : Nat) (F : E → Bool) (a : Option Addr) (c : Nat) (zs : List E) (w : World) (hz : EditsAt w a zs) (hm : zs.length ≤ 1000)
    (hC : ∀ W, Below w.heap.size w W → ∀ n, Calls Try.prog 92 #[ev n, .pointer (some ⟨P, 0, none⟩)] W fun e w' => e = .returned (.bool (F n)) ∧ Below W.heap.size W w') :
    Calls Try.prog 95 #[.slice a zs.length c, .func (.func 92) #[] #[.pointer (some ⟨P, 0, none⟩)]] w fun e w' => e = .returned (.int .i64 (idxF F zs)) ∧ Below w.heap.size w w' := by
  have HC := Lib.hid hC
  have HZ := Lib.hid hz
  clear hC hz
  unfold ev at HC
  go_enter Try.func95, Try.ntmps95
  go_wp2_with fail
  go_loopw [8] (fun s8 wr => ∃ k : Nat, k ≤ zs.length ∧ s8 = .int .i64 k ∧ (zs.take k).all (fun x => !F x) = true ∧ Below w.heap.size w wr) (fun s8 _ => zs.length - (intOf s8).toNat)
  case atStart => exact ⟨0, Nat.zero_le _, rfl, by simp, Below.refl _ _⟩
  case round =>
    obtain ⟨k, hk, rfl, hall, hB⟩ := hrel
    have HA := Lib.hid hall
    have HB := Lib.hid hB
    clear hall hB
    by_cases hlt : k < zs.length
    · obtain ⟨b, off, x, rfl, hlb, hx, c0, c1, c2, c3, c4⟩ := (HZ.out.below HB.out (Nat.le_refl _)).at_ hlt
      have HX := Lib.hid hx
      have HF := Lib.hid (HC.out wr HB.out x)
      clear hx
      cases hn : F x
      · have HN := Lib.hid (all_snoc (f := fun x => !F x) HA.out HX.out (by simpa using hn))
        rw [hn] at HF
        clear hn
        go_wp2_with fail
        refine HF.out.mono ?_
        rintro e w1 ⟨rfl, hB1⟩
        have HB1 := Lib.hid (HB.out.trans (hB1.mono HB.out.size))
        clear hB1 c0 c1 c2 c3 c4
        go_wp2_with fail
        go_roundw
        case rel => exact ⟨k + 1, by omega, by go_num, HN.out, HB1.out⟩
        case measure => simp [intOf]; omega
      · have HI := Lib.hid (idxF_at (F := F) HA.out HX.out hn)
        rw [hn] at HF
        clear hn
        go_wp2_with fail
        refine HF.out.mono ?_
        rintro e w1 ⟨rfl, hB1⟩
        have HB1 := Lib.hid (HB.out.trans (hB1.mono HB.out.size))
        clear hB1 c0 c1 c2 c3 c4
        go_wp2_with fail
        go_ret
        exact ⟨ret_int HI.out.symm, HB1.out⟩
    · have HI := Lib.hid (idxF_none (F := F) (all_whole HA.out hlt))
      go_wp2_with fail
      go_ret
      exact ⟨ret_int HI.out.symm, HB.out⟩
set_option maxHeartbeats 400000 in
theorem hasMet_any (P : Nat) (F : E → Bool) (a : Option Addr) (c : Nat) (zs : List E) (w : World) (hz : EditsAt w a zs) (hm : zs.length ≤ 1000)
    (hC : ∀ W, Below w.heap.size w W → ∀ n, Calls Try.prog 92 #[ev n, .pointer (some ⟨P, 0, none⟩)] W fun e w' => e = .returned (.bool (F n)) ∧ Below W.heap.size W w') :
    Calls Try.prog 77 #[.slice a zs.length c, .func (.func 92) #[] #[.pointer (some ⟨P, 0, none⟩)]] w fun e w' => e = .returned (.bool (zs.any F)) ∧ Below w.heap.size w w' := by
  rw [← idx_any F zs]
  have HI := Lib.hid (idxMet_any P F a c zs w hz hm hC)
  clear hz hC
  generalize idxF F zs = r at HI ⊢
  go_enter Try.func77, Try.ntmps77
  go_wp2_with fail
  refine HI.out.mono ?_
  rintro e w1 ⟨rfl, hB⟩
  go_wp2_with fail
  go_ret
  exact ⟨rfl, hB⟩

set_option maxHeartbeats 400000 in
theorem meet_any (a b : Option Addr) (ca cb : Nat) (xs ys : List E) (w : World) (hx : EditsAt w a xs) (hy : EditsAt w b ys) (hm : xs.length ≤ 1000) (hn : ys.length ≤ 1000) :
    Calls Try.prog 71 #[.slice a xs.length ca, .slice b ys.length cb] w fun e w' => e = .returned (.bool (touH xs ys)) ∧ Below w.heap.size w w' := by
  have HB0 := Lib.hid (show Below w.heap.size w (w.alloc (.cells #[.slice b ys.length cb] 46)) from (Below.refl _ _).alloc (Nat.le_refl _) _)
  have HC := Lib.hid (hasMet_any w.heap.size (fun x => ys.any fun y => y.at_ == x.at_) a ca xs (w.alloc (.cells #[.slice b ys.length cb] 46)) (hx.below HB0.out (Nat.le_refl _)) hm
    (fun W hW x => meet1_any w.heap.size b cb ys x W ((hW.cell (p := ⟨w.heap.size, 0, none⟩) (by simp)).trans (hp_cell (hp_new rfl) (j := 0) rfl)) ((hy.below HB0.out (Nat.le_refl _)).below hW (Nat.le_refl _)) hn))
  have HT := Lib.hid (show (xs.any fun x => ys.any fun y => y.at_ == x.at_) = touH xs ys from by
    unfold touH
    congr 1
    funext x
    congr 1
    funext y
    rw [Bool.eq_iff_iff, beq_iff_eq, beq_iff_eq]
    exact eq_comm)
  rw [HT.out] at HC
  clear hx hy HT
  go_enter Try.func71, Try.ntmps71
  go_wp2_with fail
  refine HC.out.mono ?_
  rintro e w1 ⟨rfl, hB⟩
  go_wp2_with fail
  go_ret
  exact ⟨rfl, HB0.out.trans (hB.mono HB0.out.size)⟩

end Go.Proofs.Ytikblaebfpdngaa

/- needs and users of story: which repairs a repair needs directly, and which need it. -/
set_option linter.unusedVariables false
set_option linter.unusedSimpArgs false
namespace Go.Proofs.Ytikblaebfpdngaa
open Go.RowKit Tinker

theorem RowsEAt.two {w : World} {g : Option Addr} {fs : List (List E)} (h : RowsEAt w g fs) {k n : Nat} (hk : k < fs.length) (hn : n < fs.length) : ∃ b off x y ax cx ay cy, g = some ⟨b, off, none⟩ ∧ b < w.heap.size ∧ fs[k]? = some x ∧ fs[n]? = some y ∧
    w.cell? ⟨b, off + k, none⟩ = some (.slice ax x.length cx) ∧ EditsAt w ax x ∧ w.cell? ⟨b, off + n, none⟩ = some (.slice ay y.length cy) ∧ EditsAt w ay y := by
  obtain ⟨b, off, e, hlb, hc⟩ := h.resolve_left (by rintro rfl; simp at hk)
  obtain ⟨x, hx⟩ := get_of_lt hk
  obtain ⟨y, hy⟩ := get_of_lt hn
  obtain ⟨ax, cx, h0, h1⟩ := hc k x hx
  obtain ⟨ay, cy, h2, h3⟩ := hc n y hy
  exact ⟨b, off, x, y, ax, cx, ay, cy, e, hlb, hx, hy, h0, h1, h2, h3⟩
theorem flt_yes {p : Nat → Bool} {k : Nat} (h : p k = true) : ints ((List.range (k + 1)).filter p) = ints ((List.range k).filter p) ++ [(k : Int)] := by
  unfold ints
  rw [List.range_succ, List.filter_append, List.map_append, List.filter_cons_of_pos h]
  rfl
theorem flt_no {p : Nat → Bool} {k : Nat} (h : p k = false) : ints ((List.range (k + 1)).filter p) = ints ((List.range k).filter p) := by
  unfold ints
  rw [List.range_succ, List.filter_append, List.filter_cons_of_neg (by rw [h]; simp), List.filter_nil, List.append_nil]
theorem flt_len (p : Nat → Bool) (k : Nat) : (ints ((List.range k).filter p)).length ≤ k := by
  unfold ints
  have := List.length_filter_le p (List.range k)
  rw [List.length_range] at this
  rw [List.length_map]
  exact this

set_option maxRecDepth 100000 in
set_option maxHeartbeats 2000000 in
theorem needs_any (g : Option Addr) (cg : Nat) (h : List (List E)) (n : Nat) (w : World) (hh : RowsEAt w g h) (hn : n < h.length) (h8 : h.length ≤ 1000) (hm : ∀ x ∈ h, x.length ≤ 1000) :
    Calls Try.prog 47 #[.slice g h.length cg, .int .i64 n] w (GivesInts (ints (dirN h n)) w) := by
  obtain ⟨i0, hi, hz0, hz1, hz2⟩ := info_parts info_int
  have HH := Lib.hid hh
  have HM := Lib.hid hm
  obtain ⟨p, hp⟩ : ∃ p : Nat → Bool, p = fun m => touH (rpA h m) (rpA h n) := ⟨_, rfl⟩
  have HPE := Lib.hid hp
  have HRS := Lib.hid (show dirN h n = (List.range n).filter p from by rw [hp]; rfl)
  rw [HRS.out]
  clear hh hm hp
  go_enter Try.func47, Try.ntmps47
  go_wp2_with fail
  go_loopw [5, 8] (fun s5 s8 wr => ∃ k : Nat, 0 ≤ k ∧ k ≤ n ∧ s8 = .int .i64 k ∧ wr.ownsRow w.heap.size 3 1 s5 (ints ((List.range k).filter p)).length ((ints ((List.range k).filter p)).map (Value.int .i64)) ∧ Below w.heap.size w wr) (fun _ s8 _ => n - (intOf s8).toNat)
  case atStart => exact ⟨0, Nat.le_refl _, by omega, by first | rfl | go_num, World.ownsRow_nil _ _ _ _, Below.refl _ _⟩
  case round =>
    obtain ⟨k, hk0, hk, rfl, hown, hB⟩ := hrel
    have HO := Lib.hid hown
    have HB := Lib.hid hB
    clear hown hB
    by_cases hlt : k < n
    · obtain ⟨b, off, x, y, ax, cx, ay, cy, rfl, hlb, hx, hy, c0, hxe, c1, hye⟩ := (HH.out.below HB.out (Nat.le_refl _)).two (k := k) (n := n) (by omega) hn
      have j0 : (0 : Int) ≤ (k : Int) := by omega
      have j1 : (k : Int) < (h.length : Int) := by omega
      have j2 : (0 : Int) ≤ (n : Int) := by omega
      have j3 : (n : Int) < (h.length : Int) := by omega
      have HXE := Lib.hid hxe
      have HYE := Lib.hid hye
      have hxl : x.length ≤ 1000 := HM.out x (mem_of_get hx)
      have hyl : y.length ≤ 1000 := HM.out y (mem_of_get hy)
      have hpk : p k = touH x y := by rw [HPE.out]; show _ = _; simp only [rpA_at hx, rpA_at hy] 
      obtain ⟨I, hI⟩ : ∃ I, touH x y = I := ⟨_, rfl⟩
      have HC := Lib.hid (fun W h1 h2 => meet_any ax ay cx cy x y W h1 h2 hxl hyl)
      rw [hI] at HC
      have HPK := Lib.hid (hpk.trans hI)
      clear hx hy hxe hye hpk hI
      go_upto_region 5 with fail
      go_cut [19] (fun s19 wx => s19 = .bool I ∧ Below wr.heap.size wr wx)
      case first =>
        go_region_held3 (fun w' => w'.cell? ⟨b, off + k, none⟩ = some (.slice ax x.length cx) ∧ w'.cell? ⟨b, off + n, none⟩ = some (.slice ay y.length cy)) (first | exact ⟨c0, c1⟩ | exact ⟨(hBa.cell (p := ⟨b, _, none⟩) hlb).trans c0, (hBa.cell (p := ⟨b, _, none⟩) hlb).trans c1⟩ | go_keep) ((go_at_call 71; refine (HC.out _ (HXE.out.below (Below.refl _ _).drew (Nat.le_refl _)) (HYE.out.below (Below.refl _ _).drew (Nat.le_refl _))).mono ?_; rintro e wa ⟨rfl, hBa⟩))
        all_goals go_wp2_with fail
        all_goals go_meet
        all_goals exact ⟨rfl, (Below.refl _ _).drew.trans (hBa.mono (Nat.le_refl _))⟩
      case rest =>
      obtain ⟨rfl, hbd⟩ := hcut
      rename_i wc
      have HO2 := Lib.hid (own_below HO.out hbd (Nat.le_refl _))
      have HB2 := Lib.hid (HB.out.trans (hbd.mono HB.out.size))
      have hlen := flt_len p k
      clear hbd HO HB c0 c1 hlb HXE HYE HC
      cases I
      · have HN := Lib.hid (flt_no HPK.out)
        go_wp2_with fail
        go_roundw
        case rel => exact ⟨k + 1, by omega, by omega, by go_num, by rw [HN.out]; exact HO2.out, HB2.out⟩
        case measure => simp [intOf]; omega
      · have HN := Lib.hid (flt_yes HPK.out)
        go_wp2_with (at_builtin; refine wpList_append_own _ rfl (.tmp 20) (.tmp 22) 35 rfl w.heap.size 3 i0 (.int .i64 0) 1 8 Try.underlying35 hi hz0 hz1 hz2 rfl (by decide) _ _ _ rfl (HO2.out.alloc _) ⟨wc.heap.size, 0, none⟩ 1 1 [.int .i64 k] rfl rfl ?c1 ?c2 ?c3 ?c4 ?c5 ?_)
        case c1 => exact cell_one_new _ _ _
        case c2 => simp [Value.oneCell']
        case c3 => unfold maxLen; omega
        case c4 => omega
        case c5 => have := HB2.out.size; simp; omega
        intro v' w1 hown' hgrow _
        have hB1 : Below w.heap.size w w1 := (HB2.out.alloc HB2.out.size _).grown hgrow (by have := HB2.out.size; simp; omega) (own_base HO2.out)
        have e : (ints ((List.range k).filter p)).map (Value.int .i64) ++ [.int .i64 k] = (ints ((List.range (k + 1)).filter p)).map (Value.int .i64) := by rw [HN.out]; simp
        have e2 : (ints ((List.range k).filter p)).length + 1 = (ints ((List.range (k + 1)).filter p)).length := by rw [HN.out]; simp
        rw [e, e2] at hown'
        have HO3 := Lib.hid hown'
        have HB3 := Lib.hid hB1
        clear hown' hgrow e e2 hB1 HO2 HB2
        go_wp2_with fail
        go_roundw
        case rel => exact ⟨k + 1, by omega, by omega, by go_num, HO3.out, HB3.out⟩
        case measure => simp [intOf]; omega
    · obtain rfl : k = n := by omega
      go_wp2_with fail
      go_ret
      exact givesInts_of rfl HO.out HB.out

set_option maxRecDepth 100000 in
set_option maxHeartbeats 2000000 in
theorem users_any (g : Option Addr) (cg : Nat) (h : List (List E)) (n : Nat) (w : World) (hh : RowsEAt w g h) (hn : n < h.length) (h8 : h.length ≤ 1000) (hm : ∀ x ∈ h, x.length ≤ 1000) :
    Calls Try.prog 52 #[.slice g h.length cg, .int .i64 n] w (GivesInts (ints (usrN h n)) w) := by
  obtain ⟨i0, hi, hz0, hz1, hz2⟩ := info_parts info_int
  have HH := Lib.hid hh
  have HM := Lib.hid hm
  obtain ⟨p, hp⟩ : ∃ p : Nat → Bool, p = fun m => decide (n < m) && touH (rpA h m) (rpA h n) := ⟨_, rfl⟩
  have HPE := Lib.hid hp
  have HRS := Lib.hid (show usrN h n = (List.range h.length).filter p from by rw [hp]; rfl)
  rw [HRS.out]
  clear hh hm hp
  have HNIL := Lib.hid (show (List.range (n + 1)).filter p = [] from by
    rw [HPE.out, List.filter_eq_nil_iff]
    intro m hm
    have := List.mem_range.1 hm
    simp
    omega)
  go_enter Try.func52, Try.ntmps52
  go_wp2_with fail
  go_loopw [5, 6] (fun s5 s6 wr => ∃ k : Nat, n + 1 ≤ k ∧ k ≤ h.length ∧ s6 = .int .i64 k ∧ wr.ownsRow w.heap.size 3 1 s5 (ints ((List.range k).filter p)).length ((ints ((List.range k).filter p)).map (Value.int .i64)) ∧ Below w.heap.size w wr) (fun _ s6 _ => h.length - (intOf s6).toNat)
  case atStart => exact ⟨n + 1, Nat.le_refl _, by omega, by first | rfl | go_num, by rw [HNIL.out]; exact World.ownsRow_nil _ _ _ _, Below.refl _ _⟩
  case round =>
    obtain ⟨k, hk0, hk, rfl, hown, hB⟩ := hrel
    have HO := Lib.hid hown
    have HB := Lib.hid hB
    clear hown hB
    by_cases hlt : k < h.length
    · obtain ⟨b, off, x, y, ax, cx, ay, cy, rfl, hlb, hx, hy, c0, hxe, c1, hye⟩ := (HH.out.below HB.out (Nat.le_refl _)).two (k := k) (n := n) (by omega) hn
      have j0 : (0 : Int) ≤ (k : Int) := by omega
      have j1 : (k : Int) < (h.length : Int) := by omega
      have j2 : (0 : Int) ≤ (n : Int) := by omega
      have j3 : (n : Int) < (h.length : Int) := by omega
      have HXE := Lib.hid hxe
      have HYE := Lib.hid hye
      have hxl : x.length ≤ 1000 := HM.out x (mem_of_get hx)
      have hyl : y.length ≤ 1000 := HM.out y (mem_of_get hy)
      have hpk : p k = touH x y := by rw [HPE.out]; show _ = _; simp only [rpA_at hx, rpA_at hy] ; rw [decide_eq_true (show n < k by omega), Bool.true_and]
      obtain ⟨I, hI⟩ : ∃ I, touH x y = I := ⟨_, rfl⟩
      have HC := Lib.hid (fun W h1 h2 => meet_any ax ay cx cy x y W h1 h2 hxl hyl)
      rw [hI] at HC
      have HPK := Lib.hid (hpk.trans hI)
      clear hx hy hxe hye hpk hI
      go_upto_region 5 with fail
      go_cut [23] (fun s23 wx => s23 = .bool I ∧ Below wr.heap.size wr wx)
      case first =>
        go_region_held3 (fun w' => w'.cell? ⟨b, off + k, none⟩ = some (.slice ax x.length cx) ∧ w'.cell? ⟨b, off + n, none⟩ = some (.slice ay y.length cy)) (first | exact ⟨c0, c1⟩ | exact ⟨(hBa.cell (p := ⟨b, _, none⟩) hlb).trans c0, (hBa.cell (p := ⟨b, _, none⟩) hlb).trans c1⟩ | go_keep) ((go_at_call 71; refine (HC.out _ (HXE.out.below (Below.refl _ _).drew (Nat.le_refl _)) (HYE.out.below (Below.refl _ _).drew (Nat.le_refl _))).mono ?_; rintro e wa ⟨rfl, hBa⟩))
        all_goals go_wp2_with fail
        all_goals go_meet
        all_goals exact ⟨rfl, (Below.refl _ _).drew.trans (hBa.mono (Nat.le_refl _))⟩
      case rest =>
      obtain ⟨rfl, hbd⟩ := hcut
      rename_i wc
      have HO2 := Lib.hid (own_below HO.out hbd (Nat.le_refl _))
      have HB2 := Lib.hid (HB.out.trans (hbd.mono HB.out.size))
      have hlen := flt_len p k
      clear hbd HO HB c0 c1 hlb HXE HYE HC
      cases I
      · have HN := Lib.hid (flt_no HPK.out)
        go_wp2_with fail
        go_roundw
        case rel => exact ⟨k + 1, by omega, by omega, by go_num, by rw [HN.out]; exact HO2.out, HB2.out⟩
        case measure => simp [intOf]; omega
      · have HN := Lib.hid (flt_yes HPK.out)
        go_wp2_with (at_builtin; refine wpList_append_own _ rfl (.tmp 24) (.tmp 26) 35 rfl w.heap.size 3 i0 (.int .i64 0) 1 8 Try.underlying35 hi hz0 hz1 hz2 rfl (by decide) _ _ _ rfl (HO2.out.alloc _) ⟨wc.heap.size, 0, none⟩ 1 1 [.int .i64 k] rfl rfl ?c1 ?c2 ?c3 ?c4 ?c5 ?_)
        case c1 => exact cell_one_new _ _ _
        case c2 => simp [Value.oneCell']
        case c3 => unfold maxLen; omega
        case c4 => omega
        case c5 => have := HB2.out.size; simp; omega
        intro v' w1 hown' hgrow _
        have hB1 : Below w.heap.size w w1 := (HB2.out.alloc HB2.out.size _).grown hgrow (by have := HB2.out.size; simp; omega) (own_base HO2.out)
        have e : (ints ((List.range k).filter p)).map (Value.int .i64) ++ [.int .i64 k] = (ints ((List.range (k + 1)).filter p)).map (Value.int .i64) := by rw [HN.out]; simp
        have e2 : (ints ((List.range k).filter p)).length + 1 = (ints ((List.range (k + 1)).filter p)).length := by rw [HN.out]; simp
        rw [e, e2] at hown'
        have HO3 := Lib.hid hown'
        have HB3 := Lib.hid hB1
        clear hown' hgrow e e2 hB1 HO2 HB2
        go_wp2_with fail
        go_roundw
        case rel => exact ⟨k + 1, by omega, by omega, by go_num, HO3.out, HB3.out⟩
        case measure => simp [intOf]; omega
    · obtain rfl : k = h.length := by omega
      go_wp2_with fail
      go_ret
      exact givesInts_of rfl HO.out HB.out

end Go.Proofs.Ytikblaebfpdngaa

/- reached of story: what is reached by steps; the closure that calls itself. -/
set_option linter.unusedVariables false
set_option linter.unusedSimpArgs false
namespace Tinker
/-- What was seen, as eight bools. -/
def l8 (V : Nat → Bool) : List Bool := (List.range 8).map V
theorem l8_len (V : Nat → Bool) : (l8 V).length = 8 := by simp [l8]
theorem l8_get (V : Nat → Bool) {i : Nat} (hi : i < 8) : (l8 V).getD i false = V i := by
  unfold l8
  rw [List.getD_eq_getElem?_getD, List.getElem?_map, List.getElem?_range hi]
  rfl
theorem l8_put (V : Nat → Bool) (m : Nat) : (l8 V).set m true = l8 (withV V m) := by
  refine List.ext_getElem? fun i => ?_
  unfold l8
  rcases Nat.lt_or_ge i 8 with h | h
  · rw [List.getElem?_set, List.getElem?_map, List.getElem?_map, List.getElem?_range h]
    by_cases hm : m = i
    · subst hm
      rw [if_pos rfl, if_pos (by simpa using h)]
      simp [withV]
    · rw [if_neg hm]
      have : (i = m) = False := eq_false (fun e => hm e.symm)
      simp [withV, this]
  · rw [List.getElem?_eq_none (by simpa using h), List.getElem?_eq_none (by simpa using h)]
/-- All repairs that a repair needs; all that need it. -/
def nedN (h : List (List E)) (n : Nat) : List Nat := (List.range h.length).filter (ndB h n)
def nddN (h : List (List E)) (n : Nat) : List Nat := (List.range h.length).filter fun m => ndB h m n
theorem range_cut {p : Nat → Bool} {a b : Nat} (hab : a ≤ b) (hp : ∀ m, a ≤ m → p m = false) : (List.range b).filter p = (List.range a).filter p := by
  obtain ⟨d, rfl⟩ : ∃ d, b = a + d := ⟨b - a, by omega⟩
  induction d with
  | zero => rfl
  | succ d ih =>
    rw [← Nat.add_assoc, List.range_succ, List.filter_append, List.filter_cons_of_neg (by rw [hp _ (by omega)]; simp), List.filter_nil, List.append_nil]
    exact ih (by omega)
theorem rpA_big {h : List (List E)} {n : Nat} (hn : h.length ≤ n) : rpA h n = [] := by
  unfold rpA
  rw [List.getD_eq_getElem?_getD, List.getElem?_eq_none hn]
  rfl
theorem ndB_big {h : List (List E)} {n k : Nat} (hn : h.length ≤ n) : ndB h n k = false := by
  cases e : ndB h n k with
  | false => rfl
  | true =>
    obtain ⟨d, hd, ht, _⟩ := ndB_iff.1 e
    rw [rpA_big hn] at ht
    obtain ⟨a, ha, _⟩ := touH_iff.1 ht
    cases ha
theorem vis_ned {h : List (List E)} {n : Nat} {V : Nat → Bool} (h8 : h.length ≤ 8) (hn : n < h.length) (hV : VisR (fun a b => ndB h a b = true) (dirN h) (dirN h n) n (fun _ => false) V) : plc (l8 V) = ints (nedN h n) := by
  unfold nedN
  rw [plc_ints (l8_len V) (p := ndB h n) (fun i hi => by rw [l8_get V hi]; exact vis_dir hV i)]
  rw [range_cut h8 (fun m hm => ?_)]
  cases e : ndB h n m with
  | false => rfl
  | true => have := ndB_lt n e; omega
theorem vis_ndd {h : List (List E)} {n : Nat} {V : Nat → Bool} (h8 : h.length ≤ 8) (hV : VisR (fun a b => a < b ∧ b < h.length ∧ ndB h b a = true) (usrN h) (usrN h n) n (fun _ => false) V) : plc (l8 V) = ints (nddN h n) := by
  unfold nddN
  rw [plc_ints (l8_len V) (p := fun m => ndB h m n) (fun i hi => ?_)]
  · rw [range_cut h8 (fun m hm => ndB_big hm)]
  · rw [l8_get V hi]
    by_cases hl : i < h.length
    · exact vis_usr hV hl
    · rw [ndB_big (by omega)]
      cases e : V i with
      | false => rfl
      | true => have := (hV.2.2 i e rfl).1.2.1; omega
end Tinker
namespace Go.Proofs.Ytikblaebfpdngaa
open Go.RowKit Tinker

theorem own_offH {W W' : World} {base n k c g : Nat} {e : TypeId} {a : Option Addr} {xs : List Value} (h : W.ownsRow base e k (.slice a n c) n xs) (ho : Off g W W') (hg : g < base) : W'.ownsRow base e k (.slice a n c) n xs := by
  refine ⟨h.1, ?_⟩
  rcases h.2 with hn | ⟨g', cap, cur, he, hbg, hg', rest⟩
  · exact .inl hn
  · refine .inr ⟨g', cap, cur, he, hbg, ?_, rest⟩
    rw [ho.block g' (hp_lt hg') (by omega)]
    exact hg'
theorem own_intsH {W : World} {base g n c : Nat} {e : TypeId} {zs : List Int} (h : W.ownsRow base e 1 (.slice (some ⟨g, 0, none⟩) n c) n (zs.map (Value.int .i64))) {k : Nat} {x : Int} (hx : zs[k]? = some x) : W.cell? ⟨g, k, none⟩ = some (.int .i64 x) :=
  own_cell h (by rw [List.getElem?_map, hx]; rfl)
theorem bools8_at {W : World} {g : Nat} {bs : List Bool} {t : TypeId} (h : W.heap[g]? = some (.cells (bv bs) t (0, 0))) : BoolsAt W g 0 bs := fun j n hj => by
  rw [Nat.zero_add]
  have := hp_cell h (bv_get bs j (List.getElem?_eq_some_iff.1 hj).1)
  rwa [getD_of_get hj] at this
/-- What a visit leans on: the next steps, what was seen, the visit itself. -/
structure VisI (s : Nat) (F G : Value) (V : Nat → Bool) (W : World) : Prop where
  bx : W.heap[s]? = some (.cells #[F] 60 (0, 0))
  bi : W.heap[s + 1]? = some (.cells (bv (l8 V)) 86 (0, 0))
  bw : W.heap[s + 1 + 1]? = some (.cells #[G] 87 (0, 0))
theorem VisI.low {s : Nat} {F G : Value} {V : Nat → Bool} {W W' : World} (h : VisI s F G V W) (hb : Below W.heap.size W W') : VisI s F G V W' :=
  ⟨hp_below h.bx hb (hp_lt h.bx), hp_below h.bi hb (hp_lt h.bi), hp_below h.bw hb (hp_lt h.bw)⟩
theorem VisI.put {s : Nat} {F G : Value} {V : Nat → Bool} {W : World} (h : VisI s F G V W) (m : Nat) : VisI s F G (withV V m) (W.setCell ⟨s + 1, m, none⟩ (.bool true)) := by
  have ho := Off.setCell (s + 1) W m (.bool true)
  refine ⟨(ho.block s (hp_lt h.bx) (by omega)).trans h.bx, ?_, (ho.block (s + 1 + 1) (hp_lt h.bw) (by omega)).trans h.bw⟩
  have := hp_put h.bi m (.bool true)
  rw [bv_set, l8_put] at this
  exact this
theorem VisI.cell {s : Nat} {F G : Value} {V : Nat → Bool} {W : World} (h : VisI s F G V W) {m : Nat} (hm : m < 8) : W.cell? ⟨s + 1, m, none⟩ = some (.bool (V m)) := by
  have := hp_cell h.bi (bv_get (l8 V) m (by rw [l8_len]; exact hm))
  rwa [l8_get V hm] at this

set_option maxRecDepth 100000 in
set_option maxHeartbeats 2000000 in
theorem visitN_any (g : Option Addr) (cg : Nat) (h : List (List E)) (w : World) (hh : RowsEAt w g h) (h8 : h.length ≤ 8) (hm : ∀ x ∈ h, x.length ≤ 1000) : ∀ (r n : Nat) (V : Nat → Bool) (W : World), n = r → n < h.length → Below w.heap.size w W → w.heap.size + 3 ≤ W.heap.size →
    VisI w.heap.size (.func (.func 47) #[.slice g h.length cg] #[]) (.func (.func 72) #[] #[.pointer (some ⟨w.heap.size, 0, none⟩), .pointer (some ⟨w.heap.size + 1, 0, none⟩), .pointer (some ⟨w.heap.size + 1 + 1, 0, none⟩)]) V W →
    Calls Try.prog 72 #[.int .i64 n, .pointer (some ⟨w.heap.size, 0, none⟩), .pointer (some ⟨w.heap.size + 1, 0, none⟩), .pointer (some ⟨w.heap.size + 1 + 1, 0, none⟩)] W fun e W' => (∃ v, e = .returned v) ∧ ∃ V', VisI w.heap.size (.func (.func 47) #[.slice g h.length cg] #[]) (.func (.func 72) #[] #[.pointer (some ⟨w.heap.size, 0, none⟩), .pointer (some ⟨w.heap.size + 1, 0, none⟩), .pointer (some ⟨w.heap.size + 1 + 1, 0, none⟩)]) V' W' ∧ Off (w.heap.size + 1) W W' ∧ VisR (fun a b => ndB h a b = true) (dirN h) (dirN h n) n V V' := by
  intro r
  induction r using Nat.strongRecOn with
  | ind r ih =>
    intro n V W hr hn hB hs hI
    have HN := Lib.hid (needs_any g cg h n W (hh.below hB (Nat.le_refl _)) hn (by omega) hm)
    have HB := Lib.hid hB
    have HI := Lib.hid hI
    have HRK := Lib.hid hr
    clear hr
    have HIH := Lib.hid ih
    have y0 := hp_cell hI.bx (j := 0) rfl
    have h8' := h8
    obtain ⟨M, hM⟩ : ∃ M, M = w.heap.size := ⟨_, rfl⟩
    rw [← hM] at y0 hs ⊢
    have HM := Lib.hid hM
    clear hB hI ih hM
    go_enter Try.func72, Try.ntmps72
    go_wp2_with fail
    refine HN.out.mono ?_
    rintro e w1 ⟨a1, c1, rfl, ho, hB1⟩
    have HO := Lib.hid ho
    have HB1 := Lib.hid hB1
    have hM1 : M < W.heap.size := by omega
    clear ho hB1 y0
    obtain ⟨xs, hxs⟩ : ∃ xs, xs = ints (dirN h n) := ⟨_, rfl⟩
    have HXS := Lib.hid hxs
    rw [← hxs] at HO ⊢
    clear hxs
    have hx8 : xs.length ≤ 8 := by rw [HXS.out, ints_len]; have := List.length_filter_le (fun m => touH (rpA h m) (rpA h n)) (List.range n); rw [List.length_range] at this; unfold dirN; omega
    go_wp2_with fail
    go_loopw [11] (fun s11 wr => ∃ (k : Nat) (V1 : Nat → Bool), k ≤ xs.length ∧ s11 = .int .i64 k ∧ VisI M (.func (.func 47) #[.slice g h.length cg] #[]) (.func (.func 72) #[] #[.pointer (some ⟨M, 0, none⟩), .pointer (some ⟨M + 1, 0, none⟩), .pointer (some ⟨M + 1 + 1, 0, none⟩)]) V1 wr ∧ Off (M + 1) W wr ∧ VisR (fun a b => ndB h a b = true) (dirN h) ((dirN h n).take k) n V V1 ∧ wr.ownsRow W.heap.size 3 1 (.slice a1 xs.length c1) xs.length (xs.map (Value.int .i64))) (fun s11 _ => xs.length - (intOf s11).toNat)
    case atStart => exact ⟨0, V, Nat.zero_le _, rfl, by rw [HM.out]; exact HI.out.low HB1.out, Off.low HB1.out, VisR.nil, HO.out⟩
    case round =>
      obtain ⟨k, V1, hk, rfl, hI1, hF1, hR1, hO1⟩ := hrel
      have HI1 := Lib.hid hI1
      have HF1 := Lib.hid hF1
      have HR1 := Lib.hid hR1
      have HO1 := Lib.hid hO1
      have hsz := hF1.size
      clear hI1 hF1 hR1 HO
      by_cases hlt : k < xs.length
      · obtain ⟨gb, rfl⟩ := own_form hO1 (by omega)
        obtain ⟨z, hz⟩ := get_of_lt hlt
        have c0 := own_intsH hO1 hz
        rw [HXS.out] at hz
        obtain ⟨m, hmk, rfl⟩ := ints_get hz
        have hmem : m ∈ dirN h n := mem_of_get hmk
        obtain ⟨hml, hmR⟩ : m < h.length ∧ m < r := by
          have := dirN_mem.1 hmem
          have := HRK.out
          omega
        have d0 := HI1.out.cell (m := m) (by omega)
        have HMK := Lib.hid hmk
        have HMEM := Lib.hid hmem
        clear hz hO1 hmk hmem
        obtain ⟨I, hV⟩ : ∃ I, V1 m = I := ⟨_, rfl⟩
        rw [hV] at d0
        have HV := Lib.hid hV
        clear hV
        cases I
        · have f0 := hp_free HI1.out.bi m
          have HI2 := Lib.hid (HI1.out.put m)
          have HOF := Lib.hid (Off.setCell (M + 1) wr m (.bool true))
          have y2 := hp_cell HI2.out.bw (j := 0) rfl
          have hm8 : m < 8 := by omega
          go_upto_region 5 with fail
          generalize wr.setCell ⟨M + 1, m, none⟩ (.bool true) = w5 at *
          have hs5 : M + 3 ≤ w5.heap.size := by have := HOF.out.size; omega
          have HB5 := Lib.hid (show Below w.heap.size w w5 from HB.out.trans ((HF1.out.trans HOF.out).below (by rw [← HM.out]; omega) (by rw [← HM.out]; omega)))
          have HC := Lib.hid (HIH.out _ hmR m (withV V1 m) w5 rfl hml HB5.out (by rw [← HM.out]; exact hs5) (by rw [← HM.out]; exact HI2.out))
          rw [← HM.out] at HC
          clear c0 d0 f0
          go_wp2_with fail
          refine HC.out.mono ?_
          rintro e w6 ⟨⟨v, rfl⟩, V3, hI3, hF3, hR3⟩
          have HI3 := Lib.hid hI3
          have HF3 := Lib.hid (HF1.out.trans (HOF.out.trans hF3))
          have HR3 := Lib.hid (VisR.step (ndB_one (dirN_mem.1 HMEM.out).1 (dirN_mem.1 HMEM.out).2) (fun x hx => ndB_iff.2 ⟨m, (dirN_mem.1 HMEM.out).1, (dirN_mem.1 HMEM.out).2, .inr hx⟩) HR1.out HMK.out hR3)
          have HO3 := Lib.hid (own_offH HO1.out (HOF.out.trans hF3) (by omega))
          clear hI3 hF3 hR3 y2
          go_wp2_with fail
          go_roundw
          case rel => exact ⟨k + 1, V3, by omega, by go_num, HI3.out, HF3.out, HR3.out, HO3.out⟩
          case measure => simp [intOf]; omega
        · have HR2 := Lib.hid (HR1.out.old HMK.out HV.out)
          go_wp2_with fail
          go_roundw
          case rel => exact ⟨k + 1, V1, by omega, by go_num, HI1.out, HF1.out, HR2.out, HO1.out⟩
          case measure => simp [intOf]; omega
      · have hxl : xs.length = (dirN h n).length := by rw [HXS.out, ints_len]
        have HT := Lib.hid (show (dirN h n).take k = dirN h n from List.take_of_length_le (by omega))
        clear hxl
        rw [HT.out] at HR1
        clear hO1
        go_wp2_with fail
        go_end0
        exact ⟨⟨_, rfl⟩, V1, HI1.out, HF1.out, HR1.out⟩

set_option maxRecDepth 100000 in
set_option maxHeartbeats 1000000 in
theorem reachedN_any (g : Option Addr) (cg : Nat) (h : List (List E)) (n : Nat) (w : World) (hh : RowsEAt w g h) (h8 : h.length ≤ 8) (hm : ∀ x ∈ h, x.length ≤ 1000) (hn : n < h.length) :
    Calls Try.prog 50 #[.int .i64 n, .func (.func 47) #[.slice g h.length cg] #[]] w (GivesInts (ints (nedN h n)) w) := by
  have HV := Lib.hid (fun W => visitN_any g cg h w hh h8 hm _ n (fun _ => false) W rfl hn)
  have HP := Lib.hid (fun V W (hi : BoolsAt W (w.heap.size + 1) 0 (l8 V)) hlt => places_any (w.heap.size + 1) 0 8 (l8 V) W hi hlt (by rw [l8_len]; omega))
  clear hh
  go_enter Try.func50, Try.ntmps50
  go_upto_region 4 with fail
  have hbel : Below w.heap.size w (((w.alloc (.cells #[.func (.func 47) #[.slice g h.length cg] #[]] 60)).alloc (.cells #[.bool false, .bool false, .bool false, .bool false, .bool false, .bool false, .bool false, .bool false] 86)).alloc (.cells #[.func (.func 72) #[] #[.pointer (some ⟨w.heap.size, 0, none⟩), .pointer (some ⟨w.heap.size + 1, 0, none⟩), .pointer (some ⟨w.heap.size + 1 + 1, 0, none⟩)]] 87)) :=
    ((((Below.refl _ _).alloc (Nat.le_refl _) _).alloc (by simp) _).alloc (by simp; omega) _)
  have hI : VisI w.heap.size (.func (.func 47) #[.slice g h.length cg] #[]) (.func (.func 72) #[] #[.pointer (some ⟨w.heap.size, 0, none⟩), .pointer (some ⟨w.heap.size + 1, 0, none⟩), .pointer (some ⟨w.heap.size + 1 + 1, 0, none⟩)]) (fun _ => false) (((w.alloc (.cells #[.func (.func 47) #[.slice g h.length cg] #[]] 60)).alloc (.cells #[.bool false, .bool false, .bool false, .bool false, .bool false, .bool false, .bool false, .bool false] 86)).alloc (.cells #[.func (.func 72) #[] #[.pointer (some ⟨w.heap.size, 0, none⟩), .pointer (some ⟨w.heap.size + 1, 0, none⟩), .pointer (some ⟨w.heap.size + 1 + 1, 0, none⟩)]] 87)) := by
    have e1 := heap_new w (.cells #[.func (.func 47) #[.slice g h.length cg] #[]] 60)
    generalize hw1 : w.alloc (.cells #[.func (.func 47) #[.slice g h.length cg] #[]] 60) = w1 at *
    have s1 : w1.heap.size = w.heap.size + 1 := by rw [← hw1]; simp
    have e2 := heap_new w1 (.cells #[.bool false, .bool false, .bool false, .bool false, .bool false, .bool false, .bool false, .bool false] 86)
    have e1' := hp_below e1 ((Below.refl w1.heap.size w1).alloc (Nat.le_refl _) (.cells #[.bool false, .bool false, .bool false, .bool false, .bool false, .bool false, .bool false, .bool false] 86)) (by omega)
    generalize hw2 : w1.alloc (.cells #[.bool false, .bool false, .bool false, .bool false, .bool false, .bool false, .bool false, .bool false] 86) = w2 at *
    have s2 : w2.heap.size = w.heap.size + 1 + 1 := by rw [← hw2]; simp [s1]
    have hb := (Below.refl w2.heap.size w2).alloc (Nat.le_refl _) (.cells #[.func (.func 72) #[] #[.pointer (some ⟨w.heap.size, 0, none⟩), .pointer (some ⟨w.heap.size + 1, 0, none⟩), .pointer (some ⟨w.heap.size + 1 + 1, 0, none⟩)]] 87)
    exact ⟨hp_below e1' hb (by omega), hp_below (by rw [← s1]; exact e2) hb (by omega), by rw [← s2]; exact heap_new _ _⟩
  have hsz : w.heap.size + 3 ≤ (((w.alloc (.cells #[.func (.func 47) #[.slice g h.length cg] #[]] 60)).alloc (.cells #[.bool false, .bool false, .bool false, .bool false, .bool false, .bool false, .bool false, .bool false] 86)).alloc (.cells #[.func (.func 72) #[] #[.pointer (some ⟨w.heap.size, 0, none⟩), .pointer (some ⟨w.heap.size + 1, 0, none⟩), .pointer (some ⟨w.heap.size + 1 + 1, 0, none⟩)]] 87)).heap.size := by simp
  generalize World.alloc _ _ = w5 at *
  have y2 := hp_cell hI.bw (j := 0) rfl
  have HC := Lib.hid (HV.out w5 hbel hsz hI)
  have HB := Lib.hid hbel
  clear hI hbel HV
  go_wp2_with fail
  refine HC.out.mono ?_
  rintro e w6 ⟨⟨v, rfl⟩, V3, hI3, hF3, hR3⟩
  have HI3 := Lib.hid hI3
  have HB6 := Lib.hid (HB.out.trans (hF3.below (by omega) (by omega)))
  have HE := Lib.hid (vis_ned h8 hn hR3)
  have HPP := Lib.hid (HP.out V3 w6 (bools8_at hI3.bi) (hp_lt hI3.bi))
  rw [HE.out, l8_len] at HPP
  clear hI3 hF3 hR3 y2 HP
  go_wp2_with fail
  refine HPP.out.mono ?_
  rintro e w7 ⟨a7, c7, rfl, ho, hB⟩
  have HO := Lib.hid (own_mono ho HB6.out.size)
  have HB7 := Lib.hid (HB6.out.trans (hB.mono HB6.out.size))
  clear ho hB
  go_wp2_with fail
  go_ret
  exact ⟨a7, c7, rfl, HO.out, HB7.out⟩

set_option maxRecDepth 100000 in
set_option maxHeartbeats 2000000 in
theorem visitU_any (g : Option Addr) (cg : Nat) (h : List (List E)) (w : World) (hh : RowsEAt w g h) (h8 : h.length ≤ 8) (hm : ∀ x ∈ h, x.length ≤ 1000) : ∀ (r n : Nat) (V : Nat → Bool) (W : World), h.length - n = r → n < h.length → Below w.heap.size w W → w.heap.size + 3 ≤ W.heap.size →
    VisI w.heap.size (.func (.func 52) #[.slice g h.length cg] #[]) (.func (.func 72) #[] #[.pointer (some ⟨w.heap.size, 0, none⟩), .pointer (some ⟨w.heap.size + 1, 0, none⟩), .pointer (some ⟨w.heap.size + 1 + 1, 0, none⟩)]) V W →
    Calls Try.prog 72 #[.int .i64 n, .pointer (some ⟨w.heap.size, 0, none⟩), .pointer (some ⟨w.heap.size + 1, 0, none⟩), .pointer (some ⟨w.heap.size + 1 + 1, 0, none⟩)] W fun e W' => (∃ v, e = .returned v) ∧ ∃ V', VisI w.heap.size (.func (.func 52) #[.slice g h.length cg] #[]) (.func (.func 72) #[] #[.pointer (some ⟨w.heap.size, 0, none⟩), .pointer (some ⟨w.heap.size + 1, 0, none⟩), .pointer (some ⟨w.heap.size + 1 + 1, 0, none⟩)]) V' W' ∧ Off (w.heap.size + 1) W W' ∧ VisR (fun a b => a < b ∧ b < h.length ∧ ndB h b a = true) (usrN h) (usrN h n) n V V' := by
  intro r
  induction r using Nat.strongRecOn with
  | ind r ih =>
    intro n V W hr hn hB hs hI
    have HN := Lib.hid (users_any g cg h n W (hh.below hB (Nat.le_refl _)) hn (by omega) hm)
    have HB := Lib.hid hB
    have HI := Lib.hid hI
    have HRK := Lib.hid hr
    clear hr
    have HIH := Lib.hid ih
    have y0 := hp_cell hI.bx (j := 0) rfl
    have h8' := h8
    obtain ⟨M, hM⟩ : ∃ M, M = w.heap.size := ⟨_, rfl⟩
    rw [← hM] at y0 hs ⊢
    have HM := Lib.hid hM
    clear hB hI ih hM
    go_enter Try.func72, Try.ntmps72
    go_wp2_with fail
    refine HN.out.mono ?_
    rintro e w1 ⟨a1, c1, rfl, ho, hB1⟩
    have HO := Lib.hid ho
    have HB1 := Lib.hid hB1
    have hM1 : M < W.heap.size := by omega
    clear ho hB1 y0
    obtain ⟨xs, hxs⟩ : ∃ xs, xs = ints (usrN h n) := ⟨_, rfl⟩
    have HXS := Lib.hid hxs
    rw [← hxs] at HO ⊢
    clear hxs
    have hx8 : xs.length ≤ 8 := by rw [HXS.out, ints_len]; have := List.length_filter_le (fun m => decide (n < m) && touH (rpA h m) (rpA h n)) (List.range h.length); rw [List.length_range] at this; unfold usrN; omega
    go_wp2_with fail
    go_loopw [11] (fun s11 wr => ∃ (k : Nat) (V1 : Nat → Bool), k ≤ xs.length ∧ s11 = .int .i64 k ∧ VisI M (.func (.func 52) #[.slice g h.length cg] #[]) (.func (.func 72) #[] #[.pointer (some ⟨M, 0, none⟩), .pointer (some ⟨M + 1, 0, none⟩), .pointer (some ⟨M + 1 + 1, 0, none⟩)]) V1 wr ∧ Off (M + 1) W wr ∧ VisR (fun a b => a < b ∧ b < h.length ∧ ndB h b a = true) (usrN h) ((usrN h n).take k) n V V1 ∧ wr.ownsRow W.heap.size 3 1 (.slice a1 xs.length c1) xs.length (xs.map (Value.int .i64))) (fun s11 _ => xs.length - (intOf s11).toNat)
    case atStart => exact ⟨0, V, Nat.zero_le _, rfl, by rw [HM.out]; exact HI.out.low HB1.out, Off.low HB1.out, VisR.nil, HO.out⟩
    case round =>
      obtain ⟨k, V1, hk, rfl, hI1, hF1, hR1, hO1⟩ := hrel
      have HI1 := Lib.hid hI1
      have HF1 := Lib.hid hF1
      have HR1 := Lib.hid hR1
      have HO1 := Lib.hid hO1
      have hsz := hF1.size
      clear hI1 hF1 hR1 HO
      by_cases hlt : k < xs.length
      · obtain ⟨gb, rfl⟩ := own_form hO1 (by omega)
        obtain ⟨z, hz⟩ := get_of_lt hlt
        have c0 := own_intsH hO1 hz
        rw [HXS.out] at hz
        obtain ⟨m, hmk, rfl⟩ := ints_get hz
        have hmem : m ∈ usrN h n := mem_of_get hmk
        obtain ⟨hml, hmR⟩ : m < h.length ∧ h.length - m < r := by
          have := usrN_mem.1 hmem
          have := HRK.out
          omega
        have d0 := HI1.out.cell (m := m) (by omega)
        have HMK := Lib.hid hmk
        have HMEM := Lib.hid hmem
        clear hz hO1 hmk hmem
        obtain ⟨I, hV⟩ : ∃ I, V1 m = I := ⟨_, rfl⟩
        rw [hV] at d0
        have HV := Lib.hid hV
        clear hV
        cases I
        · have f0 := hp_free HI1.out.bi m
          have HI2 := Lib.hid (HI1.out.put m)
          have HOF := Lib.hid (Off.setCell (M + 1) wr m (.bool true))
          have y2 := hp_cell HI2.out.bw (j := 0) rfl
          have hm8 : m < 8 := by omega
          go_upto_region 5 with fail
          generalize wr.setCell ⟨M + 1, m, none⟩ (.bool true) = w5 at *
          have hs5 : M + 3 ≤ w5.heap.size := by have := HOF.out.size; omega
          have HB5 := Lib.hid (show Below w.heap.size w w5 from HB.out.trans ((HF1.out.trans HOF.out).below (by rw [← HM.out]; omega) (by rw [← HM.out]; omega)))
          have HC := Lib.hid (HIH.out _ hmR m (withV V1 m) w5 rfl hml HB5.out (by rw [← HM.out]; exact hs5) (by rw [← HM.out]; exact HI2.out))
          rw [← HM.out] at HC
          clear c0 d0 f0
          go_wp2_with fail
          refine HC.out.mono ?_
          rintro e w6 ⟨⟨v, rfl⟩, V3, hI3, hF3, hR3⟩
          have HI3 := Lib.hid hI3
          have HF3 := Lib.hid (HF1.out.trans (HOF.out.trans hF3))
          have HR3 := Lib.hid (VisR.step ⟨(usrN_mem.1 HMEM.out).2.1, (usrN_mem.1 HMEM.out).1, ndB_one (usrN_mem.1 HMEM.out).2.1 (usrN_mem.1 HMEM.out).2.2⟩ (fun x hx => ⟨by have := (usrN_mem.1 HMEM.out).2.1; omega, hx.2.1, ndB_trans (ndB_one (usrN_mem.1 HMEM.out).2.1 (usrN_mem.1 HMEM.out).2.2) x hx.2.2⟩) HR1.out HMK.out hR3)
          have HO3 := Lib.hid (own_offH HO1.out (HOF.out.trans hF3) (by omega))
          clear hI3 hF3 hR3 y2
          go_wp2_with fail
          go_roundw
          case rel => exact ⟨k + 1, V3, by omega, by go_num, HI3.out, HF3.out, HR3.out, HO3.out⟩
          case measure => simp [intOf]; omega
        · have HR2 := Lib.hid (HR1.out.old HMK.out HV.out)
          go_wp2_with fail
          go_roundw
          case rel => exact ⟨k + 1, V1, by omega, by go_num, HI1.out, HF1.out, HR2.out, HO1.out⟩
          case measure => simp [intOf]; omega
      · have hxl : xs.length = (usrN h n).length := by rw [HXS.out, ints_len]
        have HT := Lib.hid (show (usrN h n).take k = usrN h n from List.take_of_length_le (by omega))
        clear hxl
        rw [HT.out] at HR1
        clear hO1
        go_wp2_with fail
        go_end0
        exact ⟨⟨_, rfl⟩, V1, HI1.out, HF1.out, HR1.out⟩

set_option maxRecDepth 100000 in
set_option maxHeartbeats 1000000 in
theorem reachedU_any (g : Option Addr) (cg : Nat) (h : List (List E)) (n : Nat) (w : World) (hh : RowsEAt w g h) (h8 : h.length ≤ 8) (hm : ∀ x ∈ h, x.length ≤ 1000) (hn : n < h.length) :
    Calls Try.prog 50 #[.int .i64 n, .func (.func 52) #[.slice g h.length cg] #[]] w (GivesInts (ints (nddN h n)) w) := by
  have HV := Lib.hid (fun W => visitU_any g cg h w hh h8 hm _ n (fun _ => false) W rfl hn)
  have HP := Lib.hid (fun V W (hi : BoolsAt W (w.heap.size + 1) 0 (l8 V)) hlt => places_any (w.heap.size + 1) 0 8 (l8 V) W hi hlt (by rw [l8_len]; omega))
  clear hh
  go_enter Try.func50, Try.ntmps50
  go_upto_region 4 with fail
  have hbel : Below w.heap.size w (((w.alloc (.cells #[.func (.func 52) #[.slice g h.length cg] #[]] 60)).alloc (.cells #[.bool false, .bool false, .bool false, .bool false, .bool false, .bool false, .bool false, .bool false] 86)).alloc (.cells #[.func (.func 72) #[] #[.pointer (some ⟨w.heap.size, 0, none⟩), .pointer (some ⟨w.heap.size + 1, 0, none⟩), .pointer (some ⟨w.heap.size + 1 + 1, 0, none⟩)]] 87)) :=
    ((((Below.refl _ _).alloc (Nat.le_refl _) _).alloc (by simp) _).alloc (by simp; omega) _)
  have hI : VisI w.heap.size (.func (.func 52) #[.slice g h.length cg] #[]) (.func (.func 72) #[] #[.pointer (some ⟨w.heap.size, 0, none⟩), .pointer (some ⟨w.heap.size + 1, 0, none⟩), .pointer (some ⟨w.heap.size + 1 + 1, 0, none⟩)]) (fun _ => false) (((w.alloc (.cells #[.func (.func 52) #[.slice g h.length cg] #[]] 60)).alloc (.cells #[.bool false, .bool false, .bool false, .bool false, .bool false, .bool false, .bool false, .bool false] 86)).alloc (.cells #[.func (.func 72) #[] #[.pointer (some ⟨w.heap.size, 0, none⟩), .pointer (some ⟨w.heap.size + 1, 0, none⟩), .pointer (some ⟨w.heap.size + 1 + 1, 0, none⟩)]] 87)) := by
    have e1 := heap_new w (.cells #[.func (.func 52) #[.slice g h.length cg] #[]] 60)
    generalize hw1 : w.alloc (.cells #[.func (.func 52) #[.slice g h.length cg] #[]] 60) = w1 at *
    have s1 : w1.heap.size = w.heap.size + 1 := by rw [← hw1]; simp
    have e2 := heap_new w1 (.cells #[.bool false, .bool false, .bool false, .bool false, .bool false, .bool false, .bool false, .bool false] 86)
    have e1' := hp_below e1 ((Below.refl w1.heap.size w1).alloc (Nat.le_refl _) (.cells #[.bool false, .bool false, .bool false, .bool false, .bool false, .bool false, .bool false, .bool false] 86)) (by omega)
    generalize hw2 : w1.alloc (.cells #[.bool false, .bool false, .bool false, .bool false, .bool false, .bool false, .bool false, .bool false] 86) = w2 at *
    have s2 : w2.heap.size = w.heap.size + 1 + 1 := by rw [← hw2]; simp [s1]
    have hb := (Below.refl w2.heap.size w2).alloc (Nat.le_refl _) (.cells #[.func (.func 72) #[] #[.pointer (some ⟨w.heap.size, 0, none⟩), .pointer (some ⟨w.heap.size + 1, 0, none⟩), .pointer (some ⟨w.heap.size + 1 + 1, 0, none⟩)]] 87)
    exact ⟨hp_below e1' hb (by omega), hp_below (by rw [← s1]; exact e2) hb (by omega), by rw [← s2]; exact heap_new _ _⟩
  have hsz : w.heap.size + 3 ≤ (((w.alloc (.cells #[.func (.func 52) #[.slice g h.length cg] #[]] 60)).alloc (.cells #[.bool false, .bool false, .bool false, .bool false, .bool false, .bool false, .bool false, .bool false] 86)).alloc (.cells #[.func (.func 72) #[] #[.pointer (some ⟨w.heap.size, 0, none⟩), .pointer (some ⟨w.heap.size + 1, 0, none⟩), .pointer (some ⟨w.heap.size + 1 + 1, 0, none⟩)]] 87)).heap.size := by simp
  generalize World.alloc _ _ = w5 at *
  have y2 := hp_cell hI.bw (j := 0) rfl
  have HC := Lib.hid (HV.out w5 hbel hsz hI)
  have HB := Lib.hid hbel
  clear hI hbel HV
  go_wp2_with fail
  refine HC.out.mono ?_
  rintro e w6 ⟨⟨v, rfl⟩, V3, hI3, hF3, hR3⟩
  have HI3 := Lib.hid hI3
  have HB6 := Lib.hid (HB.out.trans (hF3.below (by omega) (by omega)))
  have HE := Lib.hid (vis_ndd h8 hR3)
  have HPP := Lib.hid (HP.out V3 w6 (bools8_at hI3.bi) (hp_lt hI3.bi))
  rw [HE.out, l8_len] at HPP
  clear hI3 hF3 hR3 y2 HP
  go_wp2_with fail
  refine HPP.out.mono ?_
  rintro e w7 ⟨a7, c7, rfl, ho, hB⟩
  have HO := Lib.hid (own_mono ho HB6.out.size)
  have HB7 := Lib.hid (HB6.out.trans (hB.mono HB6.out.size))
  clear ho hB
  go_wp2_with fail
  go_ret
  exact ⟨a7, c7, rfl, HO.out, HB7.out⟩

end Go.Proofs.Ytikblaebfpdngaa
