/- TopChecks: the walk. -/
import Derived.Test.YtdcoebeffbkpnaaChkF
import Derived.Test.YtdcoebeffbkpnaaTchA
import Derived.Deep.DeepCutAuto
set_option linter.unusedVariables false
set_option linter.unusedSimpArgs false
namespace Go.Proofs.Ytdcoebeffbkpnaa
open Go.RowKit Tinker

/-- The law's own copy of the contract. -/
structure TcI (C : Nat) (vc : Array Value) (w W : World) : Prop where
  bc : W.heap[C]? = some (.cells vc 36 (0, 0))
  below : Below w.heap.size w W
theorem TcI.low {C : Nat} {vc : Array Value} {w W W' : World} (h : TcI C vc w W) (hb : Below W.heap.size W W') : TcI C vc w W' := ⟨hp_below h.bc hb (hp_lt h.bc), h.below.trans (hb.mono h.below.size)⟩
theorem TcI.drewN {C : Nat} {vc : Array Value} {w W : World} (h : TcI C vc w W) (q : Nat) : TcI C vc w (W.drewN q) := ⟨h.bc, h.below.trans ⟨rfl, rfl, rfl, Nat.le_refl _, fun _ _ => rfl⟩⟩
theorem TcI.put {C : Nat} {vc : Array Value} {w W : World} (h : TcI C vc w W) {K : Nat} (hK : w.heap.size ≤ K) (hne : C ≠ K) (j : Nat) (v : Value) : TcI C vc w (W.setCell ⟨K, j, none⟩ v) :=
  ⟨hp_set h.bc (p := ⟨K, j, none⟩) hne _, h.below.setCell (p := ⟨K, j, none⟩) hK _⟩
theorem TcI.al {C : Nat} {vc : Array Value} {w W : World} (h : TcI C vc w W) (o : Obj) : TcI C vc w (W.alloc o) := h.low ((Below.refl _ _).alloc (Nat.le_refl _) _)

/-- With the test's box. -/
structure TcJ (C D : Nat) (vc vt : Array Value) (w W : World) : Prop where
  c : TcI C vc w W
  t : W.heap[D]? = some (.cells vt 49 (0, 0))
theorem TcJ.low {C D : Nat} {vc vt : Array Value} {w W W' : World} (h : TcJ C D vc vt w W) (hb : Below W.heap.size W W') : TcJ C D vc vt w W' := ⟨h.c.low hb, hp_below h.t hb (hp_lt h.t)⟩
theorem TcJ.drewN {C D : Nat} {vc vt : Array Value} {w W : World} (h : TcJ C D vc vt w W) (q : Nat) : TcJ C D vc vt w (W.drewN q) := ⟨h.c.drewN q, h.t⟩
theorem TcJ.al {C D : Nat} {vc vt : Array Value} {w W : World} (h : TcJ C D vc vt w W) (o : Obj) : TcJ C D vc vt w (W.alloc o) := h.low ((Below.refl _ _).alloc (Nat.le_refl _) _)
theorem below_drewN6 {B : Nat} {a w : World} (h : Below B a w) (n : Nat) : Below B a (w.drewN n) := h.trans ⟨rfl, rfl, rfl, Nat.le_refl _, fun _ _ => rfl⟩
theorem tc_len {ps : List L} {lo hi : List Int} {out mn mx : Int} (h : vpc ps lo hi out mn mx = 0) : lo.length = 4 ∧ hi.length = 4 := by
  obtain ⟨hv, hcon⟩ := vpc_ok h
  obtain ⟨hcon, _⟩ := vcon_ok hcon
  obtain ⟨h1, h2, _⟩ := isCon_ok hcon
  exact ⟨(vs_ok h1).1, (vs_ok h2).1⟩
theorem inStep' {p : Nat → Prop} {k : Nat} (h : ∀ j, j < k → p j) (hk : p k) : ∀ j, j < k + 1 → p j := by
  intro j hj
  rcases Nat.lt_or_ge j k with hlt | hge
  · exact h j hlt
  · obtain rfl : j = k := by omega
    exact hk

set_option maxRecDepth 100000 in
set_option maxHeartbeats 20000000 in
theorem topChecks_walk (a : Option Addr) (ca : Nat) (ps : List L) (a2 : Option Addr) (ca2 : Nat) (qs : List L) (a1 : Option Addr) (c1 : Nat) (lo : List Int) (b1 : Option Addr) (c2 : Nat) (hi : List Int) (out mn mx : Int) (b : Option Addr) (cb : Nat) (s : List Int) (w : World)
    (hp : LinesAt w a ps) (hq : LinesAt w a2 qs) (hl : IntsAt w a1 lo) (hh : IntsAt w b1 hi) (hs : IntsAt w b s) :
    Calls Try.prog 4 #[.agg #[.slice a ps.length ca, .slice a2 qs.length ca2], .agg #[.slice a1 lo.length c1, .slice b1 hi.length c2, .int .i64 out, .int .i64 mn, .int .i64 mx], .slice b s.length cb] w fun e w' => e = .returned (.bool true) ∧ Below w.heap.size w w' := by
  have HP := Lib.hid hp
  have HQ := Lib.hid hq
  have HLO := Lib.hid hl
  have HHI := Lib.hid hh
  have HSI := Lib.hid hs
  clear hp hq hl hh hs
  have hI0 : TcI (w.heap.size + 1) #[.slice a1 lo.length c1, .slice b1 hi.length c2, .int .i64 out, .int .i64 mn, .int .i64 mx] w ((w.alloc (.cells #[.slice a ps.length ca, .slice a2 qs.length ca2] 34)).alloc (.cells #[.slice a1 lo.length c1, .slice b1 hi.length c2, .int .i64 out, .int .i64 mn, .int .i64 mx] 36)) := ⟨hp_new (by simp), ((Below.refl _ _).alloc (Nat.le_refl _) _).alloc (by simp) _⟩
  have hpb : ((w.alloc (.cells #[.slice a ps.length ca, .slice a2 qs.length ca2] 34)).alloc (.cells #[.slice a1 lo.length c1, .slice b1 hi.length c2, .int .i64 out, .int .i64 mn, .int .i64 mx] 36)).heap[w.heap.size]? = some (.cells #[.slice a ps.length ca, .slice a2 qs.length ca2] 34 (0, 0)) := hp_alloc (hp_new rfl)
  have p0 := hp_cell hpb (j := 0) (by rfl)
  have p1 := hp_cell hpb (j := 1) (by rfl)
  have HI0 := Lib.hid hI0
  clear hI0 hpb
  go_enter Try.func4, Try.ntmps4
  go_wp2_with fail
  go_quiet (fail)
  clear p0 p1
  have HI0 := Lib.hid (HI0.out.drewN nq)
  generalize (((w.alloc (.cells #[.slice a ps.length ca, .slice a2 qs.length ca2] 34)).alloc (.cells #[.slice a1 lo.length c1, .slice b1 hi.length c2, .int .i64 out, .int .i64 mn, .int .i64 mx] 36)).drewN nq) = w0 at HI0 ⊢
  go_wp2_with fail
  have hi0 : IntsAt ((w0.alloc (.cells (iv [0, 0, 0, 0]) 3)).alloc (.cells (iv [1, 0, 0, 2]) 3)) (some ⟨w0.heap.size, 0, none⟩) [0, 0, 0, 0] := (ints_lit w0 [0, 0, 0, 0] 3).below ((Below.refl _ _).alloc (Nat.le_refl _) _) (Nat.le_refl _)
  have hi1 : IntsAt ((w0.alloc (.cells (iv [0, 0, 0, 0]) 3)).alloc (.cells (iv [1, 0, 0, 2]) 3)) (some ⟨w0.heap.size + 1, 0, none⟩) [1, 0, 0, 2] := ints_lit' (by simp)
  refine (tcFirst _ _ _ hi0 hi1).mono ?_
  clear hi0 hi1
  rintro e w1 ⟨ra, rk, rfl, hr, hB⟩
  have HI1 := Lib.hid (((HI0.out.al _).al _).low hB)
  have HR := Lib.hid (hr.below ((Below.refl _ _).alloc (Nat.le_refl _) (.cells (iv [0, 0, 0, 2]) 3)) (Nat.le_refl _))
  clear hB hr HI0
  go_wp2_with fail
  refine (same_self 4 _ _ _ _ [0, 0, 0, 2] _ rfl HR.out (ints_lit w1 [0, 0, 0, 2] 3) (by omega)).mono ?_
  rintro e w2 ⟨rfl, hB⟩
  have HI2 := Lib.hid ((HI1.out.al _).low hB)
  clear hB HI1 HR
  go_wp2_with fail
  refine (long_any a ps.length ca _).mono ?_
  rintro e w' ⟨rfl, rfl⟩
  by_cases g1 : 100 < ps.length
  · have hd : decide ((100 : Int) < (ps.length : Int)) = true := by simp; omega
    go_wp2_with fail
    go_ret
    exact ⟨rfl, HI2.out.below⟩
  have hd1 : decide ((100 : Int) < (ps.length : Int)) = false := by simp; omega
  go_wp2_with fail
  refine (long_any a2 qs.length ca2 _).mono ?_
  rintro e w' ⟨rfl, rfl⟩
  by_cases g2 : 100 < qs.length
  · have hd : decide ((100 : Int) < (qs.length : Int)) = true := by simp; omega
    go_wp2_with fail
    go_ret
    exact ⟨rfl, HI2.out.below⟩
  have hd2 : decide ((100 : Int) < (qs.length : Int)) = false := by simp; omega
  have x0 := hp_cell HI2.out.bc (j := 0) (by rfl)
  have x1 := hp_cell HI2.out.bc (j := 1) (by rfl)
  have x2 := hp_cell HI2.out.bc (j := 2) (by rfl)
  have x3 := hp_cell HI2.out.bc (j := 3) (by rfl)
  have x4 := hp_cell HI2.out.bc (j := 4) (by rfl)
  go_wp2_with fail
  refine (wide_any a1 b1 c1 c2 lo.length hi.length out mn mx _).mono ?_
  rintro e w3 ⟨rfl, hB⟩
  have HI3 := Lib.hid (HI2.out.low hB)
  clear hB x0 x1 x2 x3 x4 HI2
  by_cases g3 : 100 < lo.length ∨ 100 < hi.length
  · have hd : decide (100 < lo.length ∨ 100 < hi.length) = true := by simpa using g3
    go_wp2_with fail
    go_ret
    exact ⟨rfl, HI3.out.below⟩
  have hd3 : decide (100 < lo.length ∨ 100 < hi.length) = false := by simpa using g3
  by_cases g4 : 100 < s.length
  · have hd : decide ((100 : Int) < (s.length : Int)) = true := by simp; omega
    go_wp2_with fail
    go_ret
    exact ⟨rfl, HI3.out.below⟩
  have hd4 : decide ((100 : Int) < (s.length : Int)) = false := by simp; omega
  have m1 : lo.length ≤ 1000 := by omega
  have m2 : hi.length ≤ 1000 := by omega
  have ms : s.length ≤ 1000 := by omega
  have x0 := hp_cell HI3.out.bc (j := 0) (by rfl)
  have x1 := hp_cell HI3.out.bc (j := 1) (by rfl)
  have x2 := hp_cell HI3.out.bc (j := 2) (by rfl)
  have x3 := hp_cell HI3.out.bc (j := 3) (by rfl)
  have x4 := hp_cell HI3.out.bc (j := 4) (by rfl)
  go_wp2_with fail
  refine (keeps_any a a1 b1 ca c1 c2 ps lo hi out mn mx _ (HP.out.below HI3.out.below (Nat.le_refl _)) (HLO.out.below HI3.out.below (Nat.le_refl _)) (HHI.out.below HI3.out.below (Nat.le_refl _)) m1 m2).mono ?_
  rintro e w4 ⟨rfl, hB⟩
  have HI4 := Lib.hid (HI3.out.low hB)
  clear hB x0 x1 x2 x3 x4 HI3 hd1 hd2 hd3 hd4
  by_cases hz : vpc ps lo hi out mn mx = 0
  rotate_left
  · have hz1 : (vpc ps lo hi out mn mx != 0) = true := by simpa using hz
    have hz2 : (vpc ps lo hi out mn mx == 0) = false := by simpa using hz
    go_wp2_with fail
    go_ret
    exact ⟨rfl, HI4.out.below⟩
  have HZ := Lib.hid hz
  rw [hz]
  have C2 := Lib.hid (fun w hp hl hh => bad_any a a1 b1 ca c1 c2 ps lo hi out mn mx w hp hl hh m1 m2)
  have C3 := Lib.hid (fun w hp hl hh => firstC_any a a1 b1 ca c1 c2 ps lo hi out mn mx w hp hl hh m1 m2)
  have C4 := Lib.hid (fun w hp hl hh => extremes_any a a1 b1 ca c1 c2 ps lo hi out mn mx w hp hl hh m1 m2)
  have C5 := Lib.hid (fun w hl hh => box_C a1 b1 c1 c2 lo hi out mn mx w hl hh m1 m2)
  rw [hz] at C2 C3 C4
  rw [(vpc_ok hz).2] at C5
  have F1 := kpB_bdN hz
  have F2 := kpB_ok hz
  have F3 := kpB_exV hz
  have F4 := bdN_le hz
  have F5 := Lib.hid (fun s h => bad_facts (s := s) hz h)
  have F6 := Lib.hid (fun h => in_exV (s := s) hz h)
  generalize kpB ps lo hi out mn mx = kp at F1 F2 F3 ⊢
  generalize bdN ps lo hi out mn mx = n at F1 F4 C2
  generalize fbL ps lo hi out mn mx = X at F2 F5 C3
  generalize exV ps lo hi out mn mx = E at F3 F6 C4
  obtain ⟨e1, e2⟩ := E
  generalize boxN lo hi out mn mx = bx at F4 C5
  simp only at F3 C4
  have HF1 := Lib.hid F1
  have HF2 := Lib.hid F2
  have HF3 := Lib.hid F3
  have HF4 := Lib.hid F4
  clear hz F1 F2 F3 F4
  have x0 := hp_cell HI4.out.bc (j := 0) (by rfl)
  have x1 := hp_cell HI4.out.bc (j := 1) (by rfl)
  have x2 := hp_cell HI4.out.bc (j := 2) (by rfl)
  have x3 := hp_cell HI4.out.bc (j := 3) (by rfl)
  have x4 := hp_cell HI4.out.bc (j := 4) (by rfl)
  go_wp2_with fail
  refine (C2.out _ (HP.out.below HI4.out.below (Nat.le_refl _)) (HLO.out.below HI4.out.below (Nat.le_refl _)) (HHI.out.below HI4.out.below (Nat.le_refl _))).mono ?_
  rintro e w5 ⟨rfl, hB⟩
  have HI5 := Lib.hid (HI4.out.low hB)
  clear hB HI4 x0 x1 x2 x3 x4
  have x0 := hp_cell HI5.out.bc (j := 0) (by rfl)
  have x1 := hp_cell HI5.out.bc (j := 1) (by rfl)
  have x2 := hp_cell HI5.out.bc (j := 2) (by rfl)
  have x3 := hp_cell HI5.out.bc (j := 3) (by rfl)
  have x4 := hp_cell HI5.out.bc (j := 4) (by rfl)
  go_wp2_with fail
  refine (C3.out _ (HP.out.below HI5.out.below (Nat.le_refl _)) (HLO.out.below HI5.out.below (Nat.le_refl _)) (HHI.out.below HI5.out.below (Nat.le_refl _))).mono ?_
  rintro e w6 ⟨ra, rk, rfl, JX, hB⟩
  have JX := Lib.hid JX
  have HI6 := Lib.hid (HI5.out.low hB)
  clear hB HI5 x0 x1 x2 x3 x4
  have x0 := hp_cell HI6.out.bc (j := 0) (by rfl)
  have x1 := hp_cell HI6.out.bc (j := 1) (by rfl)
  have x2 := hp_cell HI6.out.bc (j := 2) (by rfl)
  have x3 := hp_cell HI6.out.bc (j := 3) (by rfl)
  have x4 := hp_cell HI6.out.bc (j := 4) (by rfl)
  go_wp2_with fail
  refine (C4.out _ (HP.out.below HI6.out.below (Nat.le_refl _)) (HLO.out.below HI6.out.below (Nat.le_refl _)) (HHI.out.below HI6.out.below (Nat.le_refl _))).mono ?_
  rintro e w7 ⟨rfl, hB⟩
  have JX := Lib.hid (JX.out.below hB (Nat.le_refl _))
  have HI7 := Lib.hid (HI6.out.low hB)
  clear hB HI6 x0 x1 x2 x3 x4
  have x0 := hp_cell HI7.out.bc (j := 0) (by rfl)
  have x1 := hp_cell HI7.out.bc (j := 1) (by rfl)
  have x2 := hp_cell HI7.out.bc (j := 2) (by rfl)
  have x3 := hp_cell HI7.out.bc (j := 3) (by rfl)
  have x4 := hp_cell HI7.out.bc (j := 4) (by rfl)
  go_wp2_with fail
  refine (C5.out _ (HLO.out.below HI7.out.below (Nat.le_refl _)) (HHI.out.below HI7.out.below (Nat.le_refl _))).mono ?_
  rintro e w8 ⟨rfl, hB⟩
  have JX := Lib.hid (JX.out.below hB (Nat.le_refl _))
  have HI8 := Lib.hid (HI7.out.low hB)
  clear hB HI7 x0 x1 x2 x3 x4
  have x0 := hp_cell HI8.out.bc (j := 0) (by rfl)
  have x1 := hp_cell HI8.out.bc (j := 1) (by rfl)
  have x2 := hp_cell HI8.out.bc (j := 2) (by rfl)
  have x3 := hp_cell HI8.out.bc (j := 3) (by rfl)
  have x4 := hp_cell HI8.out.bc (j := 4) (by rfl)
  have HXT := Lib.hid (show X.isSome = true → ∃ z, X = some z from fun h => by
    cases X
    · cases h
    · exact ⟨_, rfl⟩)
  generalize hxs : X.isSome = is at HF2 HXT ⊢
  have HXS := Lib.hid hxs
  clear hxs
  go_upto_region 14 with fail
  go_cut [151] (fun s151 wx => s151 = .bool false ∧ wx = w8)
  case first =>
    as_aux_lemma =>
      have G1 := HF1.out
      have G2 := HF2.out
      have G3 := HF3.out
      have G4 := HF4.out
      cases kp
      · have his : is = true := by revert G2; cases is <;> decide
        subst his
        have hn : n ≠ 0 := fun e => by rw [e] at G1; simp at G1
        have d0 : (n == 0) = false := by simpa using hn
        have d4 : decide (bx < n) = false := by simp; omega
        by_cases a1 : mn ≤ e1
        · have a3 : decide (mn ≤ e1) = true := by simpa using a1
          have a2 : decide (e2 ≤ mx) = false := by rw [a3] at G3; simpa using G3.symm
          clear G1 G2 G3 G4 hn a1
          go_wp2_with fail
          go_meet
          exact ⟨rfl, rfl⟩
        · have a3 : decide (mn ≤ e1) = false := by simpa using a1
          clear G1 G2 G3 G4 hn a1
          go_wp2_with fail
          go_meet
          exact ⟨rfl, rfl⟩
      · have his : is = false := by revert G2; cases is <;> decide
        subst his
        have hn : n = 0 := by simpa using G1.symm
        have a5 := G3.symm
        rw [Bool.and_eq_true] at a5
        obtain ⟨a1, a2⟩ := a5
        subst hn
        have d4 : decide (bx < 0) = false := by simp; omega
        clear G1 G2 G3 G4
        go_wp2_with fail
        go_meet
        exact ⟨rfl, rfl⟩
  case rest =>
    as_aux_lemma =>
      obtain ⟨rfl, rfl⟩ := hcut
      clear HF1 HF2 HF3 HF4
      go_upto_if 152 with fail
      go_cut [] (fun wx => TcI (w.heap.size + 1) #[.slice a1 lo.length c1, .slice b1 hi.length c2, .int .i64 out, .int .i64 mn, .int .i64 mx] w wx)
      case first =>
        as_aux_lemma =>
          cases is
          · go_wp2_with fail
            go_meet
            exact HI8.out
          · obtain ⟨z, rfl⟩ := HXT.out rfl
            obtain ⟨z4, zm, zt, znb, zv, zp⟩ := F5.out z rfl
            have JZ := Lib.hid (show IntsAt wc ra z from JX.out)
            have C6 := Lib.hid (fun w hp hs => make_any a ra ca rk ps z out w hp hs (by omega))
            have C7 := Lib.hid (fun b' k' w hp hs => passes_C a b' ca k' ps ⟨z, out, mn⟩ w hp hs (show z.length ≤ 1000 by omega))
            rw [zm, zt] at C6
            rw [zv, zp] at C7
            simp only at C7
            generalize endP ps z out = E at C6 znb
            clear F5 HXT JX zm zt zv zp z4 C2 C3 C4 C5
            simp only [Option.getD_some]
            go_wp2_with fail
            refine (C6.out _ (HP.out.below HI8.out.below (Nat.le_refl _)) JZ.out).mono ?_
            intro e w9 hG
            obtain ⟨a7, k7, rfl, ho, hB⟩ := hG
            have HO := Lib.hid (ints_of_own ho).1
            have hDC9 : w.heap.size + 1 < w9.heap.size := Nat.lt_of_lt_of_le (hp_lt HI8.out.bc) hB.size
            have HI9 := Lib.hid (show TcJ (w.heap.size + 1) w9.heap.size #[.slice a1 lo.length c1, .slice b1 hi.length c2, .int .i64 out, .int .i64 mn, .int .i64 mx] #[.slice a7 z.length k7, .int .i64 out, .int .i64 E] w (w9.alloc (.cells #[.slice a7 z.length k7, .int .i64 out, .int .i64 E] 49)) from ⟨(HI8.out.low hB).al _, hp_new rfl⟩)
            have HI9a := Lib.hid (HI8.out.low hB)
            clear hB ho HI8 x0 x1 x2 x3 x4
            have hDC : w.heap.size + 1 < w9.heap.size := hDC9
            have t2 := hp_cell HI9.out.t (j := 2) (by rfl)
            have f2 := hp_free HI9.out.t 2
            have x3 := hp_cell HI9.out.c.bc (j := 3) (by rfl)
            have x4 := hp_cell HI9.out.c.bc (j := 4) (by rfl)
            have HI10 := Lib.hid (show TcJ (w.heap.size + 1) w9.heap.size #[.slice a1 lo.length c1, .slice b1 hi.length c2, .int .i64 out, .int .i64 mn, .int .i64 mx] #[.slice a7 z.length k7, .int .i64 out, .int .i64 mn] w (w9.alloc (.cells #[.slice a7 z.length k7, .int .i64 out, .int .i64 mn] 49)) from ⟨HI9a.out.al _, hp_new rfl⟩)
            have HB10 := Lib.hid (show Below w9.heap.size w9 (w9.alloc (.cells #[.slice a7 z.length k7, .int .i64 out, .int .i64 mn] 49)) from (Below.refl _ _).alloc (Nat.le_refl _) _)
            have s0 := hp_cell HI10.out.t (j := 0) (by rfl)
            have s1 := hp_cell HI10.out.t (j := 1) (by rfl)
            have s2 := hp_cell HI10.out.t (j := 2) (by rfl)
            by_cases g5 : mn ≤ E
            · have g6 : decide (mn ≤ E) = true := by simpa using g5
              have g7 : decide (E ≤ mx) = false := by simp; omega
              clear g5 znb
              go_wp2_with fail
              refine (C7.out _ _ _ (HP.out.below HI10.out.c.below (Nat.le_refl _)) (HO.out.below HB10.out (Nat.le_refl _))).mono ?_
              rintro e w11 ⟨rfl, hB⟩
              have HI11 := Lib.hid (HI10.out.c.low hB)
              clear hB HI10 HI9 HI9a HO HB10
              go_wp2_with fail
              go_meet
              exact HI11.out
            · have g6 : decide (mn ≤ E) = false := by simpa using g5
              clear g5 znb
              go_wp2_with fail
              refine (C7.out _ _ _ (HP.out.below HI10.out.c.below (Nat.le_refl _)) (HO.out.below HB10.out (Nat.le_refl _))).mono ?_
              rintro e w11 ⟨rfl, hB⟩
              have HI11 := Lib.hid (HI10.out.c.low hB)
              clear hB HI10 HI9 HI9a HO HB10
              go_wp2_with fail
              go_meet
              exact HI11.out
      case rest =>
        as_aux_lemma =>
          have HI8 := Lib.hid hcut
          clear hcut HXT HXS JX F5
          have x2 := hp_cell HI8.out.bc (j := 2) (by rfl)
          have C8 := Lib.hid (fun w hp hs => make_any a b ca cb ps s out w hp hs ms)
          go_wp2_with fail
          clear x2
          refine (C8.out _ (HP.out.below HI8.out.below (Nat.le_refl _)) (HSI.out.below HI8.out.below (Nat.le_refl _))).mono ?_
          rintro e w10 ⟨a8, k8, rfl, ho, hB⟩
          have JT := Lib.hid (ints_of_own ho).1
          clear ho C8
          by_cases hmk : mkC ps s out = 0
          rotate_left
          · have hmk1 : (mkC ps s out != 0) = true := by simpa using hmk
            have HI9 := Lib.hid ((HI8.out.low hB).al (.cells #[.slice a8 (mkT ps s out).inn.length k8, .int .i64 (mkT ps s out).out, .int .i64 (mkT ps s out).want] 49))
            clear hB hmk
            go_wp2_with fail
            go_ret
            exact ⟨rfl, HI9.out.below⟩
          obtain ⟨n1, n2, n3, n4, n5, n6, n7, n8⟩ := made_facts hmk
          rw [hmk, n5]
          rw [n5] at JT
          simp only at JT ⊢
          have HS4 := Lib.hid n1
          have HL4 := Lib.hid (tc_len HZ.out).1
          have HH4 := Lib.hid (tc_len HZ.out).2
          obtain ⟨l1, l2⟩ := tL_self n7
          have C9 := Lib.hid (fun b' k' w hp hs => passes_C a b' ca k' ps ⟨s, out, endP ps s out⟩ w hp hs (show s.length ≤ 1000 by omega))
          have C10 := Lib.hid (fun g cap w hp ht => tells_any a a g ca ca cap ps ps [⟨s, out, endP ps s out⟩] w hp hp ht (by simp) (fun t h => by simp at h; subst h; exact ms))
          rw [n7, n8] at C9
          rw [l1, l2] at C10
          simp only [List.length_nil, List.length_cons] at C9 C10
          have C11 := Lib.hid (fun w hp hq hl hh => differ_any a a2 a1 b1 ca ca2 c1 c2 ps qs lo hi out mn mx w hp hq hl hh m1 m2)
          have C12 : Hid (dfc ps qs lo hi out mn mx = 0 → ∀ g cap w, LinesAt w a ps → LinesAt w a2 qs → TestsAt w g [⟨s, out, endP ps s out⟩] → Calls Try.prog 20 #[.slice a ps.length ca, .slice a2 qs.length ca2, .slice g 1 cap] w (GivesIntsE (tL ps qs [⟨s, out, endP ps s out⟩]) 0 w)) := Lib.hid fun hd g cap w hp hq ht => by
            have hh := tells_any a a2 g ca ca2 cap ps qs [⟨s, out, endP ps s out⟩] w hp hq ht (by simp) (fun t h => by simp at h; subst h; exact ms)
            rw [vpqt_of hd n6] at hh
            exact hh
          have HTL : Hid (dfc ps qs lo hi out mn mx = 0 → (tL ps qs [⟨s, out, endP ps s out⟩]).length = if (endP ps s out == endP qs s out) = true then 0 else 1) := Lib.hid fun hd => tL_one (vpqt_of hd n6)
          have F9 : Hid (dfc ps qs lo hi out mn mx = 0 → inBx lo hi 4 s → (endP ps s out == endP qs s out) = false → (dfL ps qs lo hi out mn mx).isSome = true) := Lib.hid fun hd hx hn => dfL_some hd hx hn
          generalize endP ps s out = EV at *
          clear n2 n3 n4 n5 n6 n7 n8 l1 l2 hmk n1
          have HJ := Lib.hid (show TcJ (w.heap.size + 1) w10.heap.size #[.slice a1 lo.length c1, .slice b1 hi.length c2, .int .i64 out, .int .i64 mn, .int .i64 mx] #[.slice a8 s.length k8, .int .i64 out, .int .i64 EV] w (w10.alloc (.cells #[.slice a8 s.length k8, .int .i64 out, .int .i64 EV] 49)) from ⟨(HI8.out.low hB).al _, hp_new rfl⟩)
          have JT := Lib.hid (JT.out.below ((Below.refl _ _).alloc (Nat.le_refl _) (.cells #[.slice a8 s.length k8, .int .i64 out, .int .i64 EV] 49)) (Nat.le_refl _))
          clear hB HI8
          have t0 := hp_cell HJ.out.t (j := 0) (by rfl)
          have t1 := hp_cell HJ.out.t (j := 1) (by rfl)
          have t2 := hp_cell HJ.out.t (j := 2) (by rfl)
          go_wp2_with fail
          clear t0 t1 t2
          refine (C9.out _ _ _ (HP.out.below HJ.out.c.below (Nat.le_refl _)) JT.out).mono ?_
          rintro e w11 ⟨rfl, hB⟩
          have JT := Lib.hid (JT.out.below hB (Nat.le_refl _))
          have HJ := Lib.hid (HJ.out.low hB)
          clear hB C9
          have t0 := hp_cell HJ.out.t (j := 0) (by rfl)
          have t1 := hp_cell HJ.out.t (j := 1) (by rfl)
          have t2 := hp_cell HJ.out.t (j := 2) (by rfl)
          go_wp2_with fail
          clear t0 t1 t2
          refine (C10.out _ _ _ (HP.out.below (HJ.out.al _).c.below (Nat.le_refl _)) (one_test rfl JT.out)).mono ?_
          rintro e w12 ⟨a13, k13, rfl, ho, hB⟩
          have JT := Lib.hid ((JT.out.below ((Below.refl _ _).alloc (Nat.le_refl _) _) (Nat.le_refl _)).below hB (Nat.le_refl _))
          have HJ := Lib.hid ((HJ.out.al _).low hB)
          clear hB ho C10
          have d1 : ((s.length : Int) == (lo.length : Int)) = true := by rw [HS4.out, HL4.out]; rfl
          have d2 : ((s.length : Int) == (hi.length : Int)) = true := by rw [HS4.out, HH4.out]; rfl
          have x0 := hp_cell HJ.out.c.bc (j := 0) (by rfl)
          have x1 := hp_cell HJ.out.c.bc (j := 1) (by rfl)
          try simp only [List.length_nil]
          go_wp2_with fail
          clear x0 x1 d1 d2
          go_loopw [29, 30] (fun s29 s30 wr => ∃ (k : Nat) (B : Bool), k ≤ s.length ∧ s29 = .bool B ∧ s30 = .int .i64 k ∧ (B = true → ∀ j, j < k → lo.getD j 0 ≤ s.getD j 0 ∧ s.getD j 0 ≤ hi.getD j 0) ∧ TcJ (w.heap.size + 1) w10.heap.size #[.slice a1 lo.length c1, .slice b1 hi.length c2, .int .i64 out, .int .i64 mn, .int .i64 mx] #[.slice a8 s.length k8, .int .i64 out, .int .i64 EV] w wr ∧ IntsAt wr a8 s) (fun _ s30 _ => s.length - (intOf s30).toNat)
          case atStart => exact ⟨0, true, Nat.zero_le _, rfl, rfl, fun _ j hj => absurd hj (Nat.not_lt_zero j), HJ.out, JT.out⟩
          case round =>
            clear HJ JT
            obtain ⟨k, B, hk, rfl, rfl, hin, hj, hjt⟩ := hrel
            have HJ := Lib.hid hj
            have JT := Lib.hid hjt
            have HIN := Lib.hid hin
            clear hj hjt hin
            cases B
            · clear HIN
              by_cases hlt : k < s.length
              · have hl1 : decide ((k : Int) < (s.length : Int)) = true := by simp; omega
                as_aux_lemma =>
                  have t2 := hp_cell HJ.out.t (j := 2) (by rfl)
                  have x0 := hp_cell HJ.out.c.bc (j := 0) (by rfl)
                  have x1 := hp_cell HJ.out.c.bc (j := 1) (by rfl)
                  have x2 := hp_cell HJ.out.c.bc (j := 2) (by rfl)
                  have x3 := hp_cell HJ.out.c.bc (j := 3) (by rfl)
                  have x4 := hp_cell HJ.out.c.bc (j := 4) (by rfl)
                  go_wp2_with fail
                  clear x0 x1 x2 x3 x4 t2
                  refine (C11.out _ (HP.out.below HJ.out.c.below (Nat.le_refl _)) (HQ.out.below HJ.out.c.below (Nat.le_refl _)) (HLO.out.below HJ.out.c.below (Nat.le_refl _)) (HHI.out.below HJ.out.c.below (Nat.le_refl _))).mono ?_
                  rintro e w14 ⟨a9, k9, rfl, JY, hB⟩
                  have JY := Lib.hid JY
                  have JT := Lib.hid (JT.out.below hB (Nat.le_refl _))
                  have HJ := Lib.hid (HJ.out.low hB)
                  clear hB
                  by_cases hd : dfc ps qs lo hi out mn mx = 0
                  rotate_left
                  · have hd1 : (dfc ps qs lo hi out mn mx != 0) = true := by simpa using hd
                    clear hd
                    go_wp2_with fail
                    go_ret
                    exact ⟨rfl, HJ.out.c.below⟩
                  rw [hd]
                  have C12 := Lib.hid (C12.out hd)
                  have HTL := Lib.hid (HTL.out hd)
                  have F9 := Lib.hid (F9.out hd)
                  have F10 := Lib.hid (fun z h => dif_facts (s := z) hd h)
                  clear hd C11
                  have HXT := Lib.hid (show (dfL ps qs lo hi out mn mx).isSome = true → ∃ z, dfL ps qs lo hi out mn mx = some z from fun h => by
                    cases hh : dfL ps qs lo hi out mn mx
                    · rw [hh] at h; cases h
                    · exact ⟨_, rfl⟩)
                  generalize dfL ps qs lo hi out mn mx = X at *
                  generalize hxs : X.isSome = is at HXT F9 ⊢
                  have HXS := Lib.hid hxs
                  clear hxs
                  have t0 := hp_cell HJ.out.t (j := 0) (by rfl)
                  have t1 := hp_cell HJ.out.t (j := 1) (by rfl)
                  have t2 := hp_cell HJ.out.t (j := 2) (by rfl)
                  go_wp2_with fail
                  clear t0 t1 t2
                  refine (C12.out _ _ _ (HP.out.below (HJ.out.al _).c.below (Nat.le_refl _)) (HQ.out.below (HJ.out.al _).c.below (Nat.le_refl _)) (one_test rfl JT.out)).mono ?_
                  rintro e w15 ⟨a10, k10, rfl, hn10, hB⟩
                  have JY := Lib.hid ((JY.out.below ((Below.refl _ _).alloc (Nat.le_refl _) _) (Nat.le_refl _)).below hB (Nat.le_refl _))
                  have HJ := Lib.hid ((HJ.out.al _).low hB)
                  clear hB hn10 C12 JT
                  cases is
                  · go_wp2_with fail
                    go_ret
                    exact ⟨rfl, HJ.out.c.below⟩
                  · obtain ⟨z, rfl⟩ := HXT.out rfl
                    obtain ⟨q1, q2, q3, q4, q5, q6⟩ := F10.out z rfl
                    have JZ := Lib.hid (show IntsAt w15 a9 z from JY.out)
                    have C13 := Lib.hid (fun w hp hs => make_any a a9 ca k9 ps z out w hp hs (by omega))
                    have C14 := Lib.hid (fun w hp hs => make_any a2 a9 ca2 k9 qs z out w hp hs (by omega))
                    rw [q2, q3] at C13
                    rw [q4, q5] at C14
                    try simp only at C13 C14
                    have q7 : (endP ps z out != endP qs z out) = true := by simpa using q6
                    generalize endP ps z out = U at C13 q7
                    generalize endP qs z out = V at C14 q7
                    clear q1 q2 q3 q4 q5 q6 F9 F10 HXT JY
                    try simp only [Option.getD_some]
                    have x2 := hp_cell HJ.out.c.bc (j := 2) (by rfl)
                    go_wp2_with fail
                    refine (C13.out _ (HP.out.below HJ.out.c.below (Nat.le_refl _)) JZ.out).mono ?_
                    rintro e w16 ⟨a11, k11, rfl, ho, hB⟩
                    have hb16 := hB.trans ((Below.alloc (Below.refl w16.heap.size w16) (Nat.le_refl _) (.cells #[.slice a11 z.length k11, .int .i64 out, .int .i64 U] 49)).mono hB.size)
                    have HU := Lib.hid (show (w16.alloc (.cells #[.slice a11 z.length k11, .int .i64 out, .int .i64 U] 49)).heap[w16.heap.size]? = some (.cells #[.slice a11 z.length k11, .int .i64 out, .int .i64 U] 49 (0, 0)) from hp_new rfl)
                    have JZ := Lib.hid (JZ.out.below hb16 (Nat.le_refl _))
                    have HJ := Lib.hid (HJ.out.low hb16)
                    clear hb16 hB ho x2
                    have x2 := hp_cell HJ.out.c.bc (j := 2) (by rfl)
                    go_wp2_with fail
                    refine (C14.out _ (HQ.out.below HJ.out.c.below (Nat.le_refl _)) JZ.out).mono ?_
                    rintro e w17 ⟨a12, k12, rfl, ho, hB⟩
                    have hb17 := hB.trans ((Below.alloc (Below.refl w17.heap.size w17) (Nat.le_refl _) (.cells #[.slice a12 z.length k12, .int .i64 out, .int .i64 V] 49)).mono hB.size)
                    have u2 := hp_cell (hp_below HU.out hb17 (hp_lt HU.out)) (j := 2) (by rfl)
                    have v2 := hp_cell (show (w17.alloc (.cells #[.slice a12 z.length k12, .int .i64 out, .int .i64 V] 49)).heap[w17.heap.size]? = some (.cells #[.slice a12 z.length k12, .int .i64 out, .int .i64 V] 49 (0, 0)) from hp_new rfl) (j := 2) (by rfl)
                    have HJ := Lib.hid (HJ.out.low hb17)
                    clear hb17 hB ho x2 HU JZ
                    go_wp2_with fail
                    go_ret
                    exact ⟨rfl, HJ.out.c.below⟩
              · have hl1 : decide ((k : Int) < (s.length : Int)) = false := by simp; omega
                as_aux_lemma =>
                  have t2 := hp_cell HJ.out.t (j := 2) (by rfl)
                  have x0 := hp_cell HJ.out.c.bc (j := 0) (by rfl)
                  have x1 := hp_cell HJ.out.c.bc (j := 1) (by rfl)
                  have x2 := hp_cell HJ.out.c.bc (j := 2) (by rfl)
                  have x3 := hp_cell HJ.out.c.bc (j := 3) (by rfl)
                  have x4 := hp_cell HJ.out.c.bc (j := 4) (by rfl)
                  go_wp2_with fail
                  clear x0 x1 x2 x3 x4 t2
                  refine (C11.out _ (HP.out.below HJ.out.c.below (Nat.le_refl _)) (HQ.out.below HJ.out.c.below (Nat.le_refl _)) (HLO.out.below HJ.out.c.below (Nat.le_refl _)) (HHI.out.below HJ.out.c.below (Nat.le_refl _))).mono ?_
                  rintro e w14 ⟨a9, k9, rfl, JY, hB⟩
                  have JY := Lib.hid JY
                  have JT := Lib.hid (JT.out.below hB (Nat.le_refl _))
                  have HJ := Lib.hid (HJ.out.low hB)
                  clear hB
                  by_cases hd : dfc ps qs lo hi out mn mx = 0
                  rotate_left
                  · have hd1 : (dfc ps qs lo hi out mn mx != 0) = true := by simpa using hd
                    clear hd
                    go_wp2_with fail
                    go_ret
                    exact ⟨rfl, HJ.out.c.below⟩
                  rw [hd]
                  have C12 := Lib.hid (C12.out hd)
                  have HTL := Lib.hid (HTL.out hd)
                  have F9 := Lib.hid (F9.out hd)
                  have F10 := Lib.hid (fun z h => dif_facts (s := z) hd h)
                  clear hd C11
                  have HXT := Lib.hid (show (dfL ps qs lo hi out mn mx).isSome = true → ∃ z, dfL ps qs lo hi out mn mx = some z from fun h => by
                    cases hh : dfL ps qs lo hi out mn mx
                    · rw [hh] at h; cases h
                    · exact ⟨_, rfl⟩)
                  generalize dfL ps qs lo hi out mn mx = X at *
                  generalize hxs : X.isSome = is at HXT F9 ⊢
                  have HXS := Lib.hid hxs
                  clear hxs
                  have t0 := hp_cell HJ.out.t (j := 0) (by rfl)
                  have t1 := hp_cell HJ.out.t (j := 1) (by rfl)
                  have t2 := hp_cell HJ.out.t (j := 2) (by rfl)
                  go_wp2_with fail
                  clear t0 t1 t2
                  refine (C12.out _ _ _ (HP.out.below (HJ.out.al _).c.below (Nat.le_refl _)) (HQ.out.below (HJ.out.al _).c.below (Nat.le_refl _)) (one_test rfl JT.out)).mono ?_
                  rintro e w15 ⟨a10, k10, rfl, hn10, hB⟩
                  have JY := Lib.hid ((JY.out.below ((Below.refl _ _).alloc (Nat.le_refl _) _) (Nat.le_refl _)).below hB (Nat.le_refl _))
                  have HJ := Lib.hid ((HJ.out.al _).low hB)
                  clear hB hn10 C12 JT
                  cases is
                  · go_wp2_with fail
                    go_ret
                    exact ⟨rfl, HJ.out.c.below⟩
                  · obtain ⟨z, rfl⟩ := HXT.out rfl
                    obtain ⟨q1, q2, q3, q4, q5, q6⟩ := F10.out z rfl
                    have JZ := Lib.hid (show IntsAt w15 a9 z from JY.out)
                    have C13 := Lib.hid (fun w hp hs => make_any a a9 ca k9 ps z out w hp hs (by omega))
                    have C14 := Lib.hid (fun w hp hs => make_any a2 a9 ca2 k9 qs z out w hp hs (by omega))
                    rw [q2, q3] at C13
                    rw [q4, q5] at C14
                    try simp only at C13 C14
                    have q7 : (endP ps z out != endP qs z out) = true := by simpa using q6
                    generalize endP ps z out = U at C13 q7
                    generalize endP qs z out = V at C14 q7
                    clear q1 q2 q3 q4 q5 q6 F9 F10 HXT JY
                    try simp only [Option.getD_some]
                    have x2 := hp_cell HJ.out.c.bc (j := 2) (by rfl)
                    go_wp2_with fail
                    refine (C13.out _ (HP.out.below HJ.out.c.below (Nat.le_refl _)) JZ.out).mono ?_
                    rintro e w16 ⟨a11, k11, rfl, ho, hB⟩
                    have hb16 := hB.trans ((Below.alloc (Below.refl w16.heap.size w16) (Nat.le_refl _) (.cells #[.slice a11 z.length k11, .int .i64 out, .int .i64 U] 49)).mono hB.size)
                    have HU := Lib.hid (show (w16.alloc (.cells #[.slice a11 z.length k11, .int .i64 out, .int .i64 U] 49)).heap[w16.heap.size]? = some (.cells #[.slice a11 z.length k11, .int .i64 out, .int .i64 U] 49 (0, 0)) from hp_new rfl)
                    have JZ := Lib.hid (JZ.out.below hb16 (Nat.le_refl _))
                    have HJ := Lib.hid (HJ.out.low hb16)
                    clear hb16 hB ho x2
                    have x2 := hp_cell HJ.out.c.bc (j := 2) (by rfl)
                    go_wp2_with fail
                    refine (C14.out _ (HQ.out.below HJ.out.c.below (Nat.le_refl _)) JZ.out).mono ?_
                    rintro e w17 ⟨a12, k12, rfl, ho, hB⟩
                    have hb17 := hB.trans ((Below.alloc (Below.refl w17.heap.size w17) (Nat.le_refl _) (.cells #[.slice a12 z.length k12, .int .i64 out, .int .i64 V] 49)).mono hB.size)
                    have u2 := hp_cell (hp_below HU.out hb17 (hp_lt HU.out)) (j := 2) (by rfl)
                    have v2 := hp_cell (show (w17.alloc (.cells #[.slice a12 z.length k12, .int .i64 out, .int .i64 V] 49)).heap[w17.heap.size]? = some (.cells #[.slice a12 z.length k12, .int .i64 out, .int .i64 V] 49 (0, 0)) from hp_new rfl) (j := 2) (by rfl)
                    have HJ := Lib.hid (HJ.out.low hb17)
                    clear hb17 hB ho x2 HU JZ
                    go_wp2_with fail
                    go_ret
                    exact ⟨rfl, HJ.out.c.below⟩
            · by_cases hlt : k < s.length
              · have hl1 : decide ((k : Int) < (s.length : Int)) = true := by simp; omega
                obtain ⟨sb, so, sn, rfl, sl, sg, sc⟩ := (HSI.out.below HJ.out.c.below (Nat.le_refl _)).at_ hlt
                obtain ⟨lb, loff, ln, rfl, ll, lg, lc1⟩ := (HLO.out.below HJ.out.c.below (Nat.le_refl _)).at_ (k := k) (by rw [HL4.out]; rw [HS4.out] at hlt; exact hlt)
                obtain ⟨hb1, hoff, hn, rfl, hl2, hg, hc1⟩ := (HHI.out.below HJ.out.c.below (Nat.le_refl _)).at_ (k := k) (by rw [HH4.out]; rw [HS4.out] at hlt; exact hlt)
                have HG := Lib.hid (show lo.getD k 0 = ln ∧ s.getD k 0 = sn ∧ hi.getD k 0 = hn from ⟨getD_of_get lg, getD_of_get sg, getD_of_get hg⟩)
                have hl4 : k < lo.length := by rw [HL4.out]; rw [HS4.out] at hlt; exact hlt
                have hh4 : k < hi.length := by rw [HH4.out]; rw [HS4.out] at hlt; exact hlt
                clear lg sg hg sl ll hl2
                have x0 := hp_cell HJ.out.c.bc (j := 0) (by rfl)
                have x1 := hp_cell HJ.out.c.bc (j := 1) (by rfl)
                by_cases a5 : ln ≤ sn
                · have g5 : decide (ln ≤ sn) = true := by simpa using a5
                  by_cases a6 : sn ≤ hn
                  · have g6 : decide (sn ≤ hn) = true := by simpa using a6
                    as_aux_lemma =>
                      go_wp2_with fail
                      go_quiet (fail)
                      go_wp2_with fail
                      go_roundw
                      case rel => exact ⟨k + 1, true, by omega, rfl, by go_num, (fun _ => inStep' (HIN.out (by trivial)) (by rw [HG.out.1, HG.out.2.1, HG.out.2.2]; exact ⟨a5, a6⟩)), HJ.out.drewN _, JT.out.below (below_drewN6 (Below.refl _ _) _) (Nat.le_refl _)⟩
                      case measure => simp [intOf]; omega
                  · have g6 : decide (sn ≤ hn) = false := by simpa using a6
                    as_aux_lemma =>
                      go_wp2_with fail
                      go_quiet (fail)
                      go_wp2_with fail
                      go_roundw
                      case rel => exact ⟨k + 1, false, by omega, rfl, by go_num, (fun h => by cases h), HJ.out.drewN _, JT.out.below (below_drewN6 (Below.refl _ _) _) (Nat.le_refl _)⟩
                      case measure => simp [intOf]; omega
                · have g5 : decide (ln ≤ sn) = false := by simpa using a5
                  as_aux_lemma =>
                    go_wp2_with fail
                    go_quiet (fail)
                    go_wp2_with fail
                    go_roundw
                    case rel => exact ⟨k + 1, false, by omega, rfl, by go_num, (fun h => by cases h), HJ.out.drewN _, JT.out.below (below_drewN6 (Below.refl _ _) _) (Nat.le_refl _)⟩
                    case measure => simp [intOf]; omega
              · have hl1 : decide ((k : Int) < (s.length : Int)) = false := by simp; omega
                obtain rfl : k = s.length := by omega
                have HIn := Lib.hid (show inBx lo hi 4 s from ⟨HS4.out, fun j hj => HIN.out (by trivial) j (by rw [HS4.out]; exact hj)⟩)
                clear HIN
                as_aux_lemma =>
                  have t2 := hp_cell HJ.out.t (j := 2) (by rfl)
                  have x0 := hp_cell HJ.out.c.bc (j := 0) (by rfl)
                  have x1 := hp_cell HJ.out.c.bc (j := 1) (by rfl)
                  have x2 := hp_cell HJ.out.c.bc (j := 2) (by rfl)
                  have x3 := hp_cell HJ.out.c.bc (j := 3) (by rfl)
                  have x4 := hp_cell HJ.out.c.bc (j := 4) (by rfl)
                  obtain ⟨hin1, hin2⟩ : e1 ≤ EV ∧ EV ≤ e2 := F6.out HIn.out
                  have d8 : decide (EV < e1) = false := by simp; omega
                  have d9 : decide (e2 < EV) = false := by simp; omega
                  clear hin1 hin2
                  go_wp2_with fail
                  clear x0 x1 x2 x3 x4 t2 d8 d9
                  refine (C11.out _ (HP.out.below HJ.out.c.below (Nat.le_refl _)) (HQ.out.below HJ.out.c.below (Nat.le_refl _)) (HLO.out.below HJ.out.c.below (Nat.le_refl _)) (HHI.out.below HJ.out.c.below (Nat.le_refl _))).mono ?_
                  rintro e w14 ⟨a9, k9, rfl, JY, hB⟩
                  have JY := Lib.hid JY
                  have JT := Lib.hid (JT.out.below hB (Nat.le_refl _))
                  have HJ := Lib.hid (HJ.out.low hB)
                  clear hB
                  by_cases hd : dfc ps qs lo hi out mn mx = 0
                  rotate_left
                  · have hd1 : (dfc ps qs lo hi out mn mx != 0) = true := by simpa using hd
                    clear hd
                    go_wp2_with fail
                    go_ret
                    exact ⟨rfl, HJ.out.c.below⟩
                  rw [hd]
                  have C12 := Lib.hid (C12.out hd)
                  have HTL := Lib.hid (HTL.out hd)
                  have F9 := Lib.hid (F9.out hd)
                  have F10 := Lib.hid (fun z h => dif_facts (s := z) hd h)
                  clear hd C11
                  have HXT := Lib.hid (show (dfL ps qs lo hi out mn mx).isSome = true → ∃ z, dfL ps qs lo hi out mn mx = some z from fun h => by
                    cases hh : dfL ps qs lo hi out mn mx
                    · rw [hh] at h; cases h
                    · exact ⟨_, rfl⟩)
                  generalize dfL ps qs lo hi out mn mx = X at *
                  generalize hxs : X.isSome = is at HXT F9 ⊢
                  have HXS := Lib.hid hxs
                  clear hxs
                  have t0 := hp_cell HJ.out.t (j := 0) (by rfl)
                  have t1 := hp_cell HJ.out.t (j := 1) (by rfl)
                  have t2 := hp_cell HJ.out.t (j := 2) (by rfl)
                  go_wp2_with fail
                  clear t0 t1 t2
                  refine (C12.out _ _ _ (HP.out.below (HJ.out.al _).c.below (Nat.le_refl _)) (HQ.out.below (HJ.out.al _).c.below (Nat.le_refl _)) (one_test rfl JT.out)).mono ?_
                  rintro e w15 ⟨a10, k10, rfl, hn10, hB⟩
                  have JY := Lib.hid ((JY.out.below ((Below.refl _ _).alloc (Nat.le_refl _) _) (Nat.le_refl _)).below hB (Nat.le_refl _))
                  have HJ := Lib.hid ((HJ.out.al _).low hB)
                  clear hB hn10 C12 JT
                  cases hq : (EV == endP qs s out)
                  · have hs1 := F9.out HIn.out hq
                    subst hs1
                    have hl1 : decide ((0 : Int) < ((tL ps qs [⟨s, out, EV⟩]).length : Int)) = true := by rw [HTL.out, hq]; rfl
                    have hl2 : decide (0 < (tL ps qs [⟨s, out, EV⟩]).length) = true := by rw [HTL.out, hq]; rfl
                    clear hq
                    obtain ⟨z, rfl⟩ := HXT.out rfl
                    obtain ⟨q1, q2, q3, q4, q5, q6⟩ := F10.out z rfl
                    have JZ := Lib.hid (show IntsAt w15 a9 z from JY.out)
                    have C13 := Lib.hid (fun w hp hs => make_any a a9 ca k9 ps z out w hp hs (by omega))
                    have C14 := Lib.hid (fun w hp hs => make_any a2 a9 ca2 k9 qs z out w hp hs (by omega))
                    rw [q2, q3] at C13
                    rw [q4, q5] at C14
                    try simp only at C13 C14
                    have q7 : (endP ps z out != endP qs z out) = true := by simpa using q6
                    generalize endP ps z out = U at C13 q7
                    generalize endP qs z out = V at C14 q7
                    clear q1 q2 q3 q4 q5 q6 F9 F10 HXT JY
                    try simp only [Option.getD_some]
                    have x2 := hp_cell HJ.out.c.bc (j := 2) (by rfl)
                    go_wp2_with fail
                    refine (C13.out _ (HP.out.below HJ.out.c.below (Nat.le_refl _)) JZ.out).mono ?_
                    rintro e w16 ⟨a11, k11, rfl, ho, hB⟩
                    have hb16 := hB.trans ((Below.alloc (Below.refl w16.heap.size w16) (Nat.le_refl _) (.cells #[.slice a11 z.length k11, .int .i64 out, .int .i64 U] 49)).mono hB.size)
                    have HU := Lib.hid (show (w16.alloc (.cells #[.slice a11 z.length k11, .int .i64 out, .int .i64 U] 49)).heap[w16.heap.size]? = some (.cells #[.slice a11 z.length k11, .int .i64 out, .int .i64 U] 49 (0, 0)) from hp_new rfl)
                    have JZ := Lib.hid (JZ.out.below hb16 (Nat.le_refl _))
                    have HJ := Lib.hid (HJ.out.low hb16)
                    clear hb16 hB ho x2
                    have x2 := hp_cell HJ.out.c.bc (j := 2) (by rfl)
                    go_wp2_with fail
                    refine (C14.out _ (HQ.out.below HJ.out.c.below (Nat.le_refl _)) JZ.out).mono ?_
                    rintro e w17 ⟨a12, k12, rfl, ho, hB⟩
                    have hb17 := hB.trans ((Below.alloc (Below.refl w17.heap.size w17) (Nat.le_refl _) (.cells #[.slice a12 z.length k12, .int .i64 out, .int .i64 V] 49)).mono hB.size)
                    have u2 := hp_cell (hp_below HU.out hb17 (hp_lt HU.out)) (j := 2) (by rfl)
                    have v2 := hp_cell (show (w17.alloc (.cells #[.slice a12 z.length k12, .int .i64 out, .int .i64 V] 49)).heap[w17.heap.size]? = some (.cells #[.slice a12 z.length k12, .int .i64 out, .int .i64 V] 49 (0, 0)) from hp_new rfl) (j := 2) (by rfl)
                    have HJ := Lib.hid (HJ.out.low hb17)
                    clear hb17 hB ho x2 HU JZ
                    go_wp2_with fail
                    go_ret
                    exact ⟨rfl, HJ.out.c.below⟩
                  · have hl1 : decide ((0 : Int) < ((tL ps qs [⟨s, out, EV⟩]).length : Int)) = false := by rw [HTL.out, hq]; rfl
                    have hl2 : decide (0 < (tL ps qs [⟨s, out, EV⟩]).length) = false := by rw [HTL.out, hq]; rfl
                    clear hq
                    cases is
                    · go_wp2_with fail
                      go_ret
                      exact ⟨rfl, HJ.out.c.below⟩
                    · obtain ⟨z, rfl⟩ := HXT.out rfl
                      obtain ⟨q1, q2, q3, q4, q5, q6⟩ := F10.out z rfl
                      have JZ := Lib.hid (show IntsAt w15 a9 z from JY.out)
                      have C13 := Lib.hid (fun w hp hs => make_any a a9 ca k9 ps z out w hp hs (by omega))
                      have C14 := Lib.hid (fun w hp hs => make_any a2 a9 ca2 k9 qs z out w hp hs (by omega))
                      rw [q2, q3] at C13
                      rw [q4, q5] at C14
                      try simp only at C13 C14
                      have q7 : (endP ps z out != endP qs z out) = true := by simpa using q6
                      generalize endP ps z out = U at C13 q7
                      generalize endP qs z out = V at C14 q7
                      clear q1 q2 q3 q4 q5 q6 F9 F10 HXT JY
                      try simp only [Option.getD_some]
                      have x2 := hp_cell HJ.out.c.bc (j := 2) (by rfl)
                      go_wp2_with fail
                      refine (C13.out _ (HP.out.below HJ.out.c.below (Nat.le_refl _)) JZ.out).mono ?_
                      rintro e w16 ⟨a11, k11, rfl, ho, hB⟩
                      have hb16 := hB.trans ((Below.alloc (Below.refl w16.heap.size w16) (Nat.le_refl _) (.cells #[.slice a11 z.length k11, .int .i64 out, .int .i64 U] 49)).mono hB.size)
                      have HU := Lib.hid (show (w16.alloc (.cells #[.slice a11 z.length k11, .int .i64 out, .int .i64 U] 49)).heap[w16.heap.size]? = some (.cells #[.slice a11 z.length k11, .int .i64 out, .int .i64 U] 49 (0, 0)) from hp_new rfl)
                      have JZ := Lib.hid (JZ.out.below hb16 (Nat.le_refl _))
                      have HJ := Lib.hid (HJ.out.low hb16)
                      clear hb16 hB ho x2
                      have x2 := hp_cell HJ.out.c.bc (j := 2) (by rfl)
                      go_wp2_with fail
                      refine (C14.out _ (HQ.out.below HJ.out.c.below (Nat.le_refl _)) JZ.out).mono ?_
                      rintro e w17 ⟨a12, k12, rfl, ho, hB⟩
                      have hb17 := hB.trans ((Below.alloc (Below.refl w17.heap.size w17) (Nat.le_refl _) (.cells #[.slice a12 z.length k12, .int .i64 out, .int .i64 V] 49)).mono hB.size)
                      have u2 := hp_cell (hp_below HU.out hb17 (hp_lt HU.out)) (j := 2) (by rfl)
                      have v2 := hp_cell (show (w17.alloc (.cells #[.slice a12 z.length k12, .int .i64 out, .int .i64 V] 49)).heap[w17.heap.size]? = some (.cells #[.slice a12 z.length k12, .int .i64 out, .int .i64 V] 49 (0, 0)) from hp_new rfl) (j := 2) (by rfl)
                      have HJ := Lib.hid (HJ.out.low hb17)
                      clear hb17 hB ho x2 HU JZ
                      go_wp2_with fail
                      go_ret
                      exact ⟨rfl, HJ.out.c.below⟩

end Go.Proofs.Ytdcoebeffbkpnaa
