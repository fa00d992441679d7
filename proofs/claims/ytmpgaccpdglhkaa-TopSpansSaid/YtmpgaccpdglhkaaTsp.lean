/- TopSpans: the walk. -/
import Derived.Test.YtmpgaccpdglhkaaTspB
import Derived.Test.YtmpgaccpdglhkaaTspC
import Derived.Test.YtmpgaccpdglhkaaTspD
set_option linter.unusedVariables false
set_option linter.unusedSimpArgs false
namespace Go.Proofs.Ytmpgaccpdglhkaa
open Go.RowKit Tinker

set_option maxRecDepth 100000 in
set_option maxHeartbeats 40000000 in
theorem topSpans_walk (g : Option Addr) (cg : Nat) (ps : List L) (a : Option Addr) (ca : Nat) (lo : List Int) (b : Option Addr) (cb : Nat) (hi : List Int) (out mn mx r : Int) (w : World) (hp : LinesAt w g ps) (hcg : g = none → cg = 0) (hl : IntsAt w a lo) (hc : a = none → ca = 0) (hh : IntsAt w b hi) (hd : b = none → cb = 0) :
    Calls Try.prog 7 #[.slice g ps.length cg, .agg #[.slice a lo.length ca, .slice b hi.length cb, .int .i64 out, .int .i64 mn, .int .i64 mx], .int .i64 r] w fun e w' => e = .returned (.bool true) ∧ Below w.heap.size w w' := by
  clear hc hd hcg
  by_cases h1 : 100 < ps.length
  · have HLG := Lib.hid (fun w => long_any g ps.length cg w)
    have HI := Lib.hid (boxC_new (a := a) (b := b) (n := lo.length) (m := hi.length) (ca := ca) (cb := cb) (out := out) (mn := mn) (mx := mx) w)
    have x0 := HI.out.c0
    have x1 := HI.out.c1
    have x2 := HI.out.c2
    have x3 := HI.out.c3
    have x4 := HI.out.c4
    rw [show decide ((100 : Int) < (ps.length : Int)) = true from decide_eq_true (by omega)] at HLG
    clear h1 hp hl hh
    go_enter Try.func7, Try.ntmps7
    go_upto_region 1 with fail
    generalize World.alloc _ _ = W0 at *
    clear x0 x1 x2 x3 x4
    go_wp2_with fail
    refine (kReached _ _ _ (lines_blk (hp_alloc (hp_new rfl))) (ranges_blk (hp_new (by simp)))).mono ?_
    rintro e wk1 ⟨ak, ck, rfl, rk, hB⟩
    have HI := Lib.hid (HI.out.low ((((Below.refl _ _).alloc (Nat.le_refl _) _).alloc (by simp) _).trans (hB.mono (by simp; omega))))
    have RK := Lib.hid rk
    clear hB rk
    go_wp2_with fail
    refine (same_self 2 _ _ _ _ [0, 1] _ rfl (RK.out.below ((Below.refl _ _).alloc (Nat.le_refl _) _) (Nat.le_refl _)) (ints_lit2 _) (by omega)).mono ?_
    rintro e wk2 ⟨rfl, hB⟩
    have HI := Lib.hid (HI.out.low (((Below.refl _ _).alloc (Nat.le_refl _) _).trans (hB.mono (by simp))))
    clear hB RK
    have x0 := HI.out.c0
    have x1 := HI.out.c1
    have x2 := HI.out.c2
    have x3 := HI.out.c3
    have x4 := HI.out.c4
    go_wp2_with fail
    refine (HLG.out _).mono ?_
    rintro e w0 ⟨rfl, rfl⟩
    go_wp2_with fail
    go_ret
    exact ⟨rfl, HI.out.below⟩
  · by_cases hbig : 100 < lo.length ∨ 100 < hi.length
    · have HLG := Lib.hid (fun w => long_any g ps.length cg w)
      have HW := Lib.hid (fun w => wide_any a b ca cb lo.length hi.length out mn mx w)
      have HI := Lib.hid (boxC_new (a := a) (b := b) (n := lo.length) (m := hi.length) (ca := ca) (cb := cb) (out := out) (mn := mn) (mx := mx) w)
      have x0 := HI.out.c0
      have x1 := HI.out.c1
      have x2 := HI.out.c2
      have x3 := HI.out.c3
      have x4 := HI.out.c4
      rw [show decide ((100 : Int) < (ps.length : Int)) = false from decide_eq_false (by omega)] at HLG
      rw [show decide (100 < lo.length ∨ 100 < hi.length) = true by simpa using hbig] at HW
      clear hbig hl hh hp h1
      go_enter Try.func7, Try.ntmps7
      go_upto_region 1 with fail
      generalize World.alloc _ _ = W0 at *
      clear x0 x1 x2 x3 x4
      go_wp2_with fail
      refine (kReached _ _ _ (lines_blk (hp_alloc (hp_new rfl))) (ranges_blk (hp_new (by simp)))).mono ?_
      rintro e wk1 ⟨ak, ck, rfl, rk, hB⟩
      have HI := Lib.hid (HI.out.low ((((Below.refl _ _).alloc (Nat.le_refl _) _).alloc (by simp) _).trans (hB.mono (by simp; omega))))
      have RK := Lib.hid rk
      clear hB rk
      go_wp2_with fail
      refine (same_self 2 _ _ _ _ [0, 1] _ rfl (RK.out.below ((Below.refl _ _).alloc (Nat.le_refl _) _) (Nat.le_refl _)) (ints_lit2 _) (by omega)).mono ?_
      rintro e wk2 ⟨rfl, hB⟩
      have HI := Lib.hid (HI.out.low (((Below.refl _ _).alloc (Nat.le_refl _) _).trans (hB.mono (by simp))))
      clear hB RK
      have x0 := HI.out.c0
      have x1 := HI.out.c1
      have x2 := HI.out.c2
      have x3 := HI.out.c3
      have x4 := HI.out.c4
      go_wp2_with fail
      refine (HLG.out _).mono ?_
      rintro e w0 ⟨rfl, rfl⟩
      go_wp2_with fail
      refine (HW.out _ ).mono ?_
      rintro e w1 ⟨rfl, hB⟩
      have HI := Lib.hid (HI.out.low hB)
      clear hB x0 x1 x2 x3 x4
      have x0 := HI.out.c0
      have x1 := HI.out.c1
      have x2 := HI.out.c2
      have x3 := HI.out.c3
      have x4 := HI.out.c4
      go_wp2_with fail
      go_ret
      exact ⟨rfl, HI.out.below⟩
    · by_cases hz : vpc ps lo hi out mn mx = 0
      · cases hPV : pvB ps (conB lo hi) out mn mx
        · cases hKP : kpB ps lo hi out mn mx
          · exact topSpans_B g cg ps a ca lo b cb hi out mn mx r w hp hl hh h1 hbig hz hPV hKP
          · exact topSpans_C g cg ps a ca lo b cb hi out mn mx r w hp hl hh h1 hbig hz hPV hKP
        · exact topSpans_D g cg ps a ca lo b cb hi out mn mx r w hp hl hh h1 hbig hz hPV (pv_kp hz hPV)
      · have HLG := Lib.hid (fun w => long_any g ps.length cg w)
        have HW := Lib.hid (fun w => wide_any a b ca cb lo.length hi.length out mn mx w)
        have HI := Lib.hid (boxC_new (a := a) (b := b) (n := lo.length) (m := hi.length) (ca := ca) (cb := cb) (out := out) (mn := mn) (mx := mx) w)
        have x0 := HI.out.c0
        have x1 := HI.out.c1
        have x2 := HI.out.c2
        have x3 := HI.out.c3
        have x4 := HI.out.c4
        have hps : ps.length ≤ 1000 := by omega
        rw [show decide ((100 : Int) < (ps.length : Int)) = false from decide_eq_false (by omega)] at HLG
        have m1 : lo.length ≤ 1000 := by omega
        have m2 : hi.length ≤ 1000 := by omega
        rw [show decide (100 < lo.length ∨ 100 < hi.length) = false by simpa using hbig] at HW
        have HP := Lib.hid hp
        have HS := Lib.hid hl
        have HT := Lib.hid hh
        have C1 := Lib.hid (fun w h1 h2 h3 => sProves_any g a b cg ca cb ps lo hi out mn mx w h1 h2 h3 m1 m2)
        have C2 := Lib.hid (fun w h1 h2 h3 => keeps_any g a b cg ca cb ps lo hi out mn mx w h1 h2 h3 m1 m2)
        have C3 := Lib.hid (fun w h1 h2 h3 => extremes_any g a b cg ca cb ps lo hi out mn mx w h1 h2 h3 m1 m2)
        have C5 := Lib.hid (fun w h1 h2 h3 => sVerdict_any g a b cg ca cb ps lo hi out mn mx w h1 h2 h3 m1 m2)
        have C6 := Lib.hid (fun w h1 h2 h3 => sLoss_any g a b cg ca cb ps lo hi out mn mx w h1 h2 h3 m1 m2)
        have C8 := Lib.hid (fun w h1 h2 h3 => firstC_any g a b cg ca cb ps lo hi out mn mx w h1 h2 h3 m1 m2)
        have C9 := Lib.hid (fun w h1 h2 h3 => sProvesEach_any g a b cg ca cb ps lo hi out mn mx r w h1 h2 h3 m1 m2)
        unfold GivesFst at C8
        clear hbig hl hh hp h1
        have hz1 : (vpc ps lo hi out mn mx != 0) = true := by simpa using hz
        have hz2 : (vpc ps lo hi out mn mx == 0) = false := by simpa using hz
        generalize vpc ps lo hi out mn mx = E at *
        generalize pvA ps lo hi out mn mx = A at *
        clear hz C2 C3 C5 C6 C8 C9
        go_enter Try.func7, Try.ntmps7
        go_upto_region 1 with fail
        generalize World.alloc _ _ = W0 at *
        clear x0 x1 x2 x3 x4
        go_wp2_with fail
        refine (kReached _ _ _ (lines_blk (hp_alloc (hp_new rfl))) (ranges_blk (hp_new (by simp)))).mono ?_
        rintro e wk1 ⟨ak, ck, rfl, rk, hB⟩
        have HI := Lib.hid (HI.out.low ((((Below.refl _ _).alloc (Nat.le_refl _) _).alloc (by simp) _).trans (hB.mono (by simp; omega))))
        have RK := Lib.hid rk
        clear hB rk
        go_wp2_with fail
        refine (same_self 2 _ _ _ _ [0, 1] _ rfl (RK.out.below ((Below.refl _ _).alloc (Nat.le_refl _) _) (Nat.le_refl _)) (ints_lit2 _) (by omega)).mono ?_
        rintro e wk2 ⟨rfl, hB⟩
        have HI := Lib.hid (HI.out.low (((Below.refl _ _).alloc (Nat.le_refl _) _).trans (hB.mono (by simp))))
        clear hB RK
        have x0 := HI.out.c0
        have x1 := HI.out.c1
        have x2 := HI.out.c2
        have x3 := HI.out.c3
        have x4 := HI.out.c4
        go_wp2_with fail
        refine (HLG.out _).mono ?_
        rintro e w0 ⟨rfl, rfl⟩
        go_wp2_with fail
        refine (HW.out _ ).mono ?_
        rintro e w1 ⟨rfl, hB⟩
        have HI := Lib.hid (HI.out.low hB)
        clear hB x0 x1 x2 x3 x4
        have x0 := HI.out.c0
        have x1 := HI.out.c1
        have x2 := HI.out.c2
        have x3 := HI.out.c3
        have x4 := HI.out.c4
        go_wp2_with fail
        refine (C1.out _ (HP.out.below HI.out.below (Nat.le_refl _)) (HS.out.below HI.out.below (Nat.le_refl _)) (HT.out.below HI.out.below (Nat.le_refl _))).mono ?_
        rintro e w2 ⟨rfl, hB⟩
        have HI := Lib.hid (HI.out.low hB)
        clear hB x0 x1 x2 x3 x4
        have x0 := HI.out.c0
        have x1 := HI.out.c1
        have x2 := HI.out.c2
        have x3 := HI.out.c3
        have x4 := HI.out.c4
        go_wp2_with fail
        go_ret
        exact ⟨rfl, HI.out.below⟩

end Go.Proofs.Ytmpgaccpdglhkaa
