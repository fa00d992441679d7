/- Make of the document's answers; equal tests: contracts. -/
import Derived.Test.YtndmjenfgggfbaaMake
import Derived.Test.YtndmjenfgggfbaaLines
set_option linter.unusedVariables false
set_option linter.unusedSimpArgs false
namespace Go.Proofs.Ytndmjenfgggfbaa
open Go.RowKit Tinker

/-- A test in memory, and a code. -/
def GivesTR (t : T) (c : Int) (w : World) (e : Ending) (w' : World) : Prop :=
  ∃ a k, e = .returned (.tuple #[.agg #[.slice a t.inn.length k, .int .i64 t.out, .int .i64 t.want], .int .i64 c]) ∧ IntsAt w' a t.inn ∧ Below w.heap.size w w'
theorem vs_01 (s : List Int) : vs s = 0 ∨ vs s = 1 := by unfold vs; split <;> simp

set_option maxRecDepth 100000 in
set_option maxHeartbeats 2000000 in
theorem rMake_any (a b : Option Addr) (ca cb : Nat) (ps : List L) (s : List Int) (out : Int) (w : World) (hp : LinesAt w a ps) (hs : IntsAt w b s) (hm : s.length ≤ 1000) :
    Calls Try.prog 45 #[.slice a ps.length ca, .slice b s.length cb, .int .i64 out] w (GivesTR (mkT ps s out) (mkC ps s out) w) := by
  obtain ⟨i0, hi, hz0, hz1, hz2⟩ := info_parts info_int
  have HV := Lib.hid (fun w hp => rValidate_any a ca ps w hp)
  have HS := Lib.hid (fun w hs => rValidateState_any b cb s w hs)
  have HI := Lib.hid (boxT_new (a := none) (n := 0) (ca := 0) (out := 0) (want := 0) w)
  have HIR := Lib.hid (fun w => within3_any out w)
  have HSI := Lib.hid hs
  by_cases h1 : vp ps = 0
  · rw [h1] at HV
    rcases vs_01 s with h2 | h2
    · have hz : vr ps s = 0 := by unfold vr fe; rw [if_pos h1]; exact h2
      rw [h2] at HS
      cases ho : isReg out
      · have e : mkC ps s out = 1 := by unfold mkC fe; rw [if_pos hz, ho]; rfl
        have e2 : mkT ps s out = ⟨[], 0, 0⟩ := by unfold mkT; rw [e]; rfl
        rw [e, e2]
        rw [ho] at HIR
        clear h1 h2 hz ho e e2 hs
        go_enter Try.func45, Try.ntmps45
        go_wp2_with fail
        refine (HV.out _ (hp.below HI.out.below (Nat.le_refl _))).mono ?_
        rintro e w1 ⟨rfl, hB⟩
        have HI1 := Lib.hid (HI.out.low hB)
        clear hB
        go_wp2_with fail
        refine (HS.out _ (HSI.out.below HI1.out.below (Nat.le_refl _))).mono ?_
        rintro e w2 ⟨rfl, rfl⟩
        go_wp2_with fail
        refine (HIR.out _).mono ?_
        rintro e w4 ⟨rfl, rfl⟩
        have y0 := HI1.out.c0
        have y1 := HI1.out.c1
        have y2 := HI1.out.c2
        have f0 := hp_free HI1.out.bl 0
        have f1 := hp_free HI1.out.bl 1
        have f2 := hp_free HI1.out.bl 2
        go_wp2_with fail
        refine bodyPost_ret (v := .tuple #[.agg #[.slice none 0 0, .int .i64 0, .int .i64 0], .int .i64 1]) ?_ rfl ⟨none, 0, rfl, .inl rfl, ?_⟩
        · exact results_cell_row_tmp (p := 6) (ty := 25) rfl _ _ w.heap.size 25 _ (0, 0) (by rfl) (hp_put (hp_put (hp_put HI1.out.bl 0 _) 1 _) 2 _) Try.underlying25 (by kernel_rfl) rfl
        · exact ((HI1.out.below.setCell (p := ⟨w.heap.size, _, none⟩) (Nat.le_refl _) _).setCell (p := ⟨w.heap.size, _, none⟩) (Nat.le_refl _) _).setCell (p := ⟨w.heap.size, _, none⟩) (Nat.le_refl _) _
      · have e : mkC ps s out = 0 := by unfold mkC fe; rw [if_pos hz, ho]; rfl
        have e2 : mkT ps s out = ⟨s, out, endP ps s out⟩ := by unfold mkT; rw [e]; rfl
        rw [e, e2]
        rw [ho] at HIR
        have h4 := (vs_ok h2).1
        have HE := Lib.hid (fun w hp hs => rMade_any a b ca cb ps s out w hp hs hz ho)
        show Calls Try.prog 45 #[.slice a ps.length ca, .slice b s.length cb, .int .i64 out] w (fun e w' => ∃ a k, e = .returned (.tuple #[.agg #[.slice a s.length k, .int .i64 out, .int .i64 (endP ps s out)], .int .i64 0]) ∧ IntsAt w' a s ∧ Below w.heap.size w w')
        generalize endP ps s out = V at HE ⊢
        obtain ⟨bb, bo, rfl, hlb, hcells⟩ := hs.resolve_left (by rintro rfl; simp at h4)
        have HSC := Lib.hid hcells
        clear h1 h2 hz ho e e2 hs hcells h4
        go_enter Try.func45, Try.ntmps45
        go_wp2_with fail
        refine (HV.out _ (hp.below HI.out.below (Nat.le_refl _))).mono ?_
        rintro e w1 ⟨rfl, hB⟩
        have HI1 := Lib.hid (HI.out.low hB)
        clear hB
        go_wp2_with fail
        refine (HS.out _ (HSI.out.below HI1.out.below (Nat.le_refl _))).mono ?_
        rintro e w2 ⟨rfl, rfl⟩
        have hown0 := World.ownsRow_lit (base := w1.heap.size) (e := 3) (size := 1) w1 #[] 0 (Nat.le_refl _) (by simp [maxLen]) (by simp)
        have hx := hp_lt HI1.out.bl
        have hlw := HI1.out.below.size
        go_wp2_with (first | (go_at_call 91; refine (HIR.out _).mono ?_; rintro e w4 ⟨rfl, rfl⟩) | (at_builtin; (refine wpList_append_own _ rfl (.tmp 24) (.tmp 25) 23 rfl w1.heap.size 3 i0 (.int .i64 0) 1 8 Try.underlying23 hi hz0 hz1 hz2 rfl (by decide) _ 0 [] rfl hown0 ⟨bb, bo, none⟩ s.length cb (s.map (Value.int .i64)) rfl ?c1 ?c2 ?c3 ?c4 ?c5 ?c6 ?_)))
        case c1 => simp
        case c2 => exact fun j z hz => cell_alloc_keep ((HSI.out.below HI1.out.below (Nat.le_refl _)).cells j z hz)
        case c3 => simp [Value.oneCell']
        case c4 => simp [maxLen]; omega
        case c5 => omega
        case c6 => simp
        intro v' w5 hown1 hgrow _
        have hB5 : Below w1.heap.size w1 w5 := ((Below.refl _ _).alloc (Nat.le_refl _) _).grown hgrow (by simp) (by rintro k hk; simp [Value.ownBlock] at hk; omega)
        obtain ⟨a5, k5, rfl⟩ := own_slice hown1
        have hl5 : (s.map (Value.int .i64)).length = s.length := by simp
        have HI5 := Lib.hid (HI1.out.low hB5)
        have HO := Lib.hid hown1
        clear hown1 hown0 hgrow hB5
        go_wp2_with fail
        refine (HE.out _ (hp.below HI5.out.below (Nat.le_refl _)) (HSI.out.below HI5.out.below (Nat.le_refl _))).mono ?_
        rintro e w6 ⟨rfl, hB6⟩
        have HO6 := Lib.hid (own_below HO.out hB6 (Nat.le_refl _))
        have HI6 := Lib.hid (HI5.out.low hB6)
        have y0 := HI6.out.c0
        have y1 := HI6.out.c1
        have y2 := HI6.out.c2
        have f0 := hp_free HI6.out.bl 0
        have f1 := hp_free HI6.out.bl 1
        have f2 := hp_free HI6.out.bl 2
        clear hB6
        go_wp2_with fail
        refine bodyPost_ret (v := .tuple #[.agg #[.slice a5 s.length k5, .int .i64 out, .int .i64 V], .int .i64 0]) ?_ rfl ⟨a5, k5, rfl, ?_, ?_⟩
        · exact results_cell_row_tmp (p := 6) (ty := 25) rfl _ _ w.heap.size 25 _ (0, 0) (by rfl) (hp_put (hp_put (hp_put HI6.out.bl 0 _) 1 _) 2 _) Try.underlying25 (by kernel_rfl) rfl
        · exact (ints_of_own (own_put_other (own_put_other (own_put_other HO6.out (g := w.heap.size) hx _ _) (g := w.heap.size) hx _ _) (g := w.heap.size) hx _ _)).1
        · exact ((HI6.out.below.setCell (p := ⟨w.heap.size, _, none⟩) (Nat.le_refl _) _).setCell (p := ⟨w.heap.size, _, none⟩) (Nat.le_refl _) _).setCell (p := ⟨w.heap.size, _, none⟩) (Nat.le_refl _) _
    · have hz : vr ps s = 1 := by unfold vr fe; rw [if_pos h1]; exact h2
      have e : mkC ps s out = 1 := by unfold mkC fe; rw [hz]; rfl
      have e2 : mkT ps s out = ⟨[], 0, 0⟩ := by unfold mkT; rw [e]; rfl
      rw [e, e2]
      rw [h2] at HS
      clear h1 h2 hz e e2 hs
      go_enter Try.func45, Try.ntmps45
      go_wp2_with fail
      refine (HV.out _ (hp.below HI.out.below (Nat.le_refl _))).mono ?_
      rintro e w1 ⟨rfl, hB⟩
      have HI1 := Lib.hid (HI.out.low hB)
      clear hB
      go_wp2_with fail
      refine (HS.out _ (HSI.out.below HI1.out.below (Nat.le_refl _))).mono ?_
      rintro e w2 ⟨rfl, rfl⟩
      have y0 := HI1.out.c0
      have y1 := HI1.out.c1
      have y2 := HI1.out.c2
      have f0 := hp_free HI1.out.bl 0
      have f1 := hp_free HI1.out.bl 1
      have f2 := hp_free HI1.out.bl 2
      go_wp2_with fail
      refine bodyPost_ret (v := .tuple #[.agg #[.slice none 0 0, .int .i64 0, .int .i64 0], .int .i64 1]) ?_ rfl ⟨none, 0, rfl, .inl rfl, ?_⟩
      · exact results_cell_row_tmp (p := 6) (ty := 25) rfl _ _ w.heap.size 25 _ (0, 0) (by rfl) (hp_put (hp_put (hp_put HI1.out.bl 0 _) 1 _) 2 _) Try.underlying25 (by kernel_rfl) rfl
      · exact ((HI1.out.below.setCell (p := ⟨w.heap.size, _, none⟩) (Nat.le_refl _) _).setCell (p := ⟨w.heap.size, _, none⟩) (Nat.le_refl _) _).setCell (p := ⟨w.heap.size, _, none⟩) (Nat.le_refl _) _
  · have hz : vr ps s = vp ps := by unfold vr fe; rw [if_neg h1]
    have e : mkC ps s out = vp ps := by unfold mkC fe; rw [hz, if_neg h1]
    have e2 : mkT ps s out = ⟨[], 0, 0⟩ := by unfold mkT; rw [e, if_neg h1]
    rw [e, e2]
    generalize vp ps = c at HV h1
    have hz1 : (c != 0) = true := by simpa using h1
    have hz2 : (c == 0) = false := by simpa using h1
    clear h1 hz e e2 hs
    go_enter Try.func45, Try.ntmps45
    go_wp2_with fail
    refine (HV.out _ (hp.below HI.out.below (Nat.le_refl _))).mono ?_
    rintro e w1 ⟨rfl, hB⟩
    have HI1 := Lib.hid (HI.out.low hB)
    clear hB
    have y0 := HI1.out.c0
    have y1 := HI1.out.c1
    have y2 := HI1.out.c2
    have f0 := hp_free HI1.out.bl 0
    have f1 := hp_free HI1.out.bl 1
    have f2 := hp_free HI1.out.bl 2
    go_wp2_with fail
    refine bodyPost_ret (v := .tuple #[.agg #[.slice none 0 0, .int .i64 0, .int .i64 0], .int .i64 c]) ?_ rfl ⟨none, 0, rfl, .inl rfl, ?_⟩
    · exact results_cell_row_tmp (p := 6) (ty := 25) rfl _ _ w.heap.size 25 _ (0, 0) (by rfl) (hp_put (hp_put (hp_put HI1.out.bl 0 _) 1 _) 2 _) Try.underlying25 (by kernel_rfl) rfl
    · exact ((HI1.out.below.setCell (p := ⟨w.heap.size, _, none⟩) (Nat.le_refl _) _).setCell (p := ⟨w.heap.size, _, none⟩) (Nat.le_refl _) _).setCell (p := ⟨w.heap.size, _, none⟩) (Nat.le_refl _) _

set_option maxRecDepth 100000 in
set_option maxHeartbeats 1000000 in
theorem sameTests_self (t : T) (n : Nat) (a b : Option Addr) (ca cb : Nat) (w : World) (hn : t.inn.length = n) (h1 : IntsAt w a t.inn) (h2 : IntsAt w b t.inn) (hm : n ≤ 1000) :
    Calls Try.prog 46 #[.agg #[.slice a n ca, .int .i64 t.out, .int .i64 t.want], .agg #[.slice b n cb, .int .i64 t.out, .int .i64 t.want]] w fun e w' => e = .returned (.bool true) ∧ Below w.heap.size w w' := by
  have HI := Lib.hid (boxT_new (a := a) (n := n) (ca := ca) (out := t.out) (want := t.want) w)
  have HJ := Lib.hid (boxT_new (a := b) (n := n) (ca := cb) (out := t.out) (want := t.want) (w.alloc (.cells #[.slice a n ca, .int .i64 t.out, .int .i64 t.want] 25)))
  have HI1 := Lib.hid (HI.out.low HJ.out.below)
  have x0 := HI1.out.c0
  have x1 := HI1.out.c1
  have x2 := HI1.out.c2
  have y0 := HJ.out.c0
  have y1 := HJ.out.c1
  have y2 := HJ.out.c2
  rw [World.size_alloc] at y0 y1 y2
  have e1 : (t.out == t.out) = true := by simp
  have e2 : (t.want == t.want) = true := by simp
  have HN := Lib.hid hn
  have H1 := Lib.hid (h1.below HI1.out.below (Nat.le_refl _))
  have H2 := Lib.hid (h2.below HI1.out.below (Nat.le_refl _))
  clear hn h1 h2
  go_enter Try.func46, Try.ntmps46
  go_wp2_with fail
  refine (same_self n _ _ _ _ t.inn _ HN.out H1.out H2.out hm).mono ?_
  rintro e w1 ⟨rfl, hB⟩
  have HI2 := Lib.hid (HI1.out.low hB)
  have HJ2 := Lib.hid (HJ.out.low hB)
  clear x0 x1 x2 y0 y1 y2
  have x0 := HI2.out.c0
  have x1 := HI2.out.c1
  have x2 := HI2.out.c2
  have y0 := HJ2.out.c0
  have y1 := HJ2.out.c1
  have y2 := HJ2.out.c2
  rw [World.size_alloc] at y0 y1 y2
  go_wp2_with fail
  go_ret
  exact ⟨rfl, HI2.out.below⟩

end Go.Proofs.Ytndmjenfgggfbaa
