/- CodeRuns: the walk. -/
import Derived.Test.YtmideaancmpafaaRefC
import Derived.Test.YtmideaancmpafaaLines
set_option linter.unusedVariables false
set_option linter.unusedSimpArgs false
namespace Go.Proofs.Ytmideaancmpafaa
open Go.RowKit Tinker

theorem runL_len (ps : List L) (s : List Int) : (runL ps s).length ≤ 4 := by
  unfold runL
  split
  · rename_i h; exact Nat.le_of_eq (runE_ok h).1
  · simp
theorem doneA_len (ps : List L) (s : List Int) : (doneA ps s).length ≤ 8 := by
  unfold doneA
  split
  · have := plcTo_length (doneL (runS ps s)) (doneL (runS ps s)).length
    unfold plc
    rwa [doneL_length] at this ⊢
  · simp

/-- The five lists of numbers of the law. -/
structure RnI (g a1 a2 a3 a4 : Option Addr) (s r1 r2 d1 d2 : List Int) (w W : World) : Prop where
  io : IntsAt W g s
  i1 : IntsAt W a1 r1
  i2 : IntsAt W a2 r2
  i3 : IntsAt W a3 d1
  i4 : IntsAt W a4 d2
  below : Below w.heap.size w W
theorem RnI.low {g a1 a2 a3 a4 : Option Addr} {s r1 r2 d1 d2 : List Int} {w W W' : World} (h : RnI g a1 a2 a3 a4 s r1 r2 d1 d2 w W) (hb : Below W.heap.size W W') : RnI g a1 a2 a3 a4 s r1 r2 d1 d2 w W' :=
  ⟨h.io.below hb (Nat.le_refl _), h.i1.below hb (Nat.le_refl _), h.i2.below hb (Nat.le_refl _), h.i3.below hb (Nat.le_refl _), h.i4.below hb (Nat.le_refl _), h.below.trans (hb.mono h.below.size)⟩

set_option maxRecDepth 100000 in
set_option maxHeartbeats 1000000 in
theorem codeRuns_walk (a : Option Addr) (ca : Nat) (ps : List L) (b : Option Addr) (cb : Nat) (s : List Int) (w : World) (hp : LinesAt w a ps) (hc : a = none → ca = 0) (hs : IntsAt w b s) (hd : b = none → cb = 0) :
    Calls Try.prog 3 #[.slice a ps.length ca, .slice b s.length cb] w fun e w' => e = .returned (.bool true) ∧ Below w.heap.size w w' := by
  have HL := Lib.hid (fun w => long_any a ps.length ca w)
  have HM := Lib.hid (fun w => large_any b s.length cb w)
  clear hc
  cases h1 : decide ((100 : Int) < (ps.length : Int))
  · cases h2 : decide ((100 : Int) < (s.length : Int))
    · have g1 : ¬ (100 : Int) < (ps.length : Int) := by simpa using h1
      have g2 : ¬ (100 : Int) < (s.length : Int) := by simpa using h2
      have hp1 : ps.length ≤ 1000 := by omega
      have hs1 : s.length ≤ 1000 := by omega
      rw [h1] at HL
      rw [h2] at HM
      have HB := Lib.hid (fun b cb w hp hs => run_any a b ca cb ps s w hp hs (by omega))
      have HR := Lib.hid (fun w hp hs => rRun_any a b ca cb ps s w hp hs)
      have HD := Lib.hid (fun w hp hs => done_any a b ca cb ps s w hp hs (by omega))
      have HE := Lib.hid (fun w hp hs => rDone_any a b ca cb ps s w hp hs)
      have HV1 := Lib.hid (fun w hp => validate_any a ca ps w hp)
      have HV2 := Lib.hid (fun w hp => rValidate_any a ca ps w hp)
      have HS1 := Lib.hid (fun w hs => validateState_any b cb s w hs (by omega))
      have HS2 := Lib.hid (fun w hs => rValidateState_any b cb s w hs)
      have hl1 := runL_len ps s
      have hl2 := doneA_len ps s
      generalize runL ps s = r at HB HR hl1
      generalize doneA ps s = d at HD HE hl2
      generalize vr ps s = c at HB HR HD HE
      generalize vp ps = cp at HV1 HV2
      generalize vs s = cs at HS1 HS2
      clear h1 h2 g1 g2
      obtain ⟨i0, hi, hz0, hz1, hz2⟩ := info_parts info_int
      go_enter Try.func3, Try.ntmps3
      go_upto_region 3 with (first | (go_at_call 15; refine (HL.out _).mono ?_; rintro e w' ⟨rfl, rfl⟩) | (go_at_call 16; refine (HM.out _).mono ?_; rintro e w' ⟨rfl, rfl⟩))
      go_cut [5] (fun s5 wx => ∃ g c, s5 = .slice g s.length c ∧ IntsAt wx g s ∧ Below w.heap.size w wx)
      case first =>
        have hown := World.ownsRow_lit (base := w.heap.size) (e := 3) (size := 1) w #[] 0 (Nat.le_refl _) (by simp [maxLen]) (by simp)
        cases b with
        | none =>
          have hps := hs.none
          have hc0 := hd rfl
          subst hps
          subst hc0
          clear hs hd hp
          go_wp2_with (at_builtin; (refine wpList_append_own_none rfl (.tmp 21) (.tmp 22) 23 rfl w.heap.size 3 i0 1 Try.underlying23 hi _ 0 [] rfl hown rfl ?_))
          go_meet
          exact ⟨_, _, rfl, .inl rfl, (Below.refl _ _).alloc (Nat.le_refl _) _⟩
        | some ad =>
          have HC := Lib.hid hs.cells
          clear hs hd hp
          go_wp2_with (at_builtin; (refine wpList_append_own _ rfl (.tmp 21) (.tmp 22) 23 rfl w.heap.size 3 i0 (.int .i64 0) 1 8 Try.underlying23 hi hz0 hz1 hz2 rfl (by decide) _ 0 [] rfl hown ad s.length cb (s.map (Value.int .i64)) rfl ?c1 ?c2 ?c3 ?c4 ?c5 ?c6 ?_))
          case c2 => exact fun j z hz => cell_alloc_keep (HC.out j (.int .i64 z) (by simp [hz]))
          case c3 => simp [Value.oneCell']
          case c4 => simp [maxLen]; omega
          case c5 => omega
          intro v' w1 hown1 hgrow _
          have hB : Below w.heap.size w w1 := ((Below.refl _ _).alloc (Nat.le_refl _) _).grown hgrow (by simp) (by rintro k hk; simp [Value.ownBlock] at hk; omega)
          obtain ⟨g, c, rfl⟩ := own_slice hown1
          have HO := Lib.hid (ints_of_own hown1).1
          clear hown1 hown hgrow
          go_wp2
          go_meet
          exact ⟨_, _, rfl, HO.out, hB⟩
      case rest =>
        obtain ⟨g, cg, rfl, hio, hB0⟩ := hcut
        have hI : RnI g none none none none s [] [] [] [] w wc := ⟨hio, .inl rfl, .inl rfl, .inl rfl, .inl rfl, hB0⟩
        clear hio hB0 hi hz0 hz1 hz2
        go_wp2_with fail
        refine (HB.out _ _ _ (hp.below hI.below (Nat.le_refl _)) hI.io).mono ?_
        intro e w1 hG
        obtain ⟨a1, c1, rfl, hi1, hB1⟩ := hG.weak
        replace hI : RnI g a1 none none none s r [] [] [] w w1 := ⟨(hI.low hB1).io, hi1, .inl rfl, .inl rfl, .inl rfl, (hI.low hB1).below⟩
        clear hi1 hB1 hG
        go_wp2_with fail
        refine (HR.out _ (hp.below hI.below (Nat.le_refl _)) (hs.below hI.below (Nat.le_refl _))).mono ?_
        intro e w2 hG
        obtain ⟨a2, c2, rfl, hi2, hB1⟩ := hG
        replace hI : RnI g a1 a2 none none s r r [] [] w w2 := ⟨(hI.low hB1).io, (hI.low hB1).i1, hi2, .inl rfl, .inl rfl, (hI.low hB1).below⟩
        clear hi2 hB1
        go_wp2_with fail
        refine (HD.out _ (hp.below hI.below (Nat.le_refl _)) (hs.below hI.below (Nat.le_refl _))).mono ?_
        intro e w3 hG
        obtain ⟨a3, c3, rfl, hi3, hB1⟩ := hG.weak
        replace hI : RnI g a1 a2 a3 none s r r d [] w w3 := ⟨(hI.low hB1).io, (hI.low hB1).i1, (hI.low hB1).i2, hi3, .inl rfl, (hI.low hB1).below⟩
        clear hi3 hB1 hG
        go_wp2_with fail
        refine (HE.out _ (hp.below hI.below (Nat.le_refl _)) (hs.below hI.below (Nat.le_refl _))).mono ?_
        intro e w4 hG
        obtain ⟨a4, c4, rfl, hi4, hB1⟩ := hG
        replace hI : RnI g a1 a2 a3 a4 s r r d d w w4 := ⟨(hI.low hB1).io, (hI.low hB1).i1, (hI.low hB1).i2, (hI.low hB1).i3, hi4, (hI.low hB1).below⟩
        clear hi4 hB1
        go_wp2_with fail
        refine (HV1.out _ (hp.below hI.below (Nat.le_refl _))).mono ?_
        rintro e w5 ⟨rfl, hB1⟩
        replace hI := hI.low hB1
        clear hB1
        go_wp2_with fail
        refine (HV2.out _ (hp.below hI.below (Nat.le_refl _))).mono ?_
        rintro e w6 ⟨rfl, hB1⟩
        replace hI := hI.low hB1
        clear hB1
        go_wp2_with fail
        refine (HS1.out _ (hs.below hI.below (Nat.le_refl _))).mono ?_
        rintro e w7 ⟨rfl, rfl⟩
        go_wp2_with fail
        refine (HS2.out _ (hs.below hI.below (Nat.le_refl _))).mono ?_
        rintro e w8 ⟨rfl, rfl⟩
        go_wp2_with fail
        refine (same_self r.length _ _ _ _ r _ rfl hI.i1 hI.i2 (by omega)).mono ?_
        rintro e w9 ⟨rfl, hB1⟩
        replace hI := hI.low hB1
        clear hB1
        go_wp2_with fail
        refine (same_self d.length _ _ _ _ d _ rfl hI.i3 hI.i4 (by omega)).mono ?_
        rintro e w10 ⟨rfl, hB1⟩
        replace hI := hI.low hB1
        clear hB1
        go_wp2_with fail
        refine (same_self s.length _ _ _ _ s _ rfl hI.io (hs.below hI.below (Nat.le_refl _)) (by omega)).mono ?_
        rintro e w11 ⟨rfl, hB1⟩
        replace hI := hI.low hB1
        clear hB1
        go_wp2_with fail
        refine (known_true _).mono ?_
        rintro e w12 ⟨rfl, hB1⟩
        replace hI := hI.low hB1
        clear hB1
        go_wp2_with fail
        go_ret
        exact ⟨rfl, hI.below⟩
    · rw [h1] at HL
      rw [h2] at HM
      clear h1 h2 hp hs
      go_enter Try.func3, Try.ntmps3
      go_wp2_with (first | (go_at_call 15; refine (HL.out _).mono ?_; rintro e w' ⟨rfl, rfl⟩) | (go_at_call 16; refine (HM.out _).mono ?_; rintro e w' ⟨rfl, rfl⟩))
      refine (known_true _).mono ?_
      rintro e w1 ⟨rfl, hB⟩
      go_wp2_with fail
      go_ret
      exact ⟨rfl, hB⟩
  · rw [h1] at HL
    clear h1 hp hs
    go_enter Try.func3, Try.ntmps3
    go_wp2_with (go_at_call 15; refine (HL.out _).mono ?_; rintro e w' ⟨rfl, rfl⟩)
    refine (known_true _).mono ?_
    rintro e w1 ⟨rfl, hB⟩
    go_wp2_with fail
    go_ret
    exact ⟨rfl, hB⟩

end Go.Proofs.Ytmideaancmpafaa
