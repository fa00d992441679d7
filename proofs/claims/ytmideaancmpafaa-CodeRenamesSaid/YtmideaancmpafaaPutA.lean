/- Same, Put of the document's answers; Put of package code: contracts. -/
import Derived.Test.YtmideaancmpafaaLns
import Derived.Test.YtmideaancmpafaaRefA
import Derived.Deep.MidRow
import Derived.BigQuiet
import Derived.Deep.QuietTactic
set_option linter.unusedVariables false
set_option linter.unusedSimpArgs false
namespace Go.Proofs.Ytmideaancmpafaa
open Go.RowKit Tinker

set_option maxRecDepth 100000 in
set_option maxHeartbeats 400000 in
theorem sameL_self (n : Nat) (a b : Option Addr) (ca cb : Nat) (ps : List L) (w : World) (hn : ps.length = n) (ha : LinesAt w a ps) (hb : LinesAt w b ps) (hm : n ≤ 1000) :
    Calls Try.prog 44 #[.slice a n ca, .slice b n cb] w fun e w' => e = .returned (.bool true) ∧ Below w.heap.size w w' := by
  have HN := Lib.hid hn
  have hnn : ((n : Int) != (n : Int)) = false := by simp
  go_enter Try.func44, Try.ntmps44
  go_wp2_with fail
  go_loopw [5] (fun s5 wr => ∃ k : Nat, k ≤ n ∧ s5 = .int .i64 k ∧ Below w.heap.size w wr) (fun s5 _ => n - (intOf s5).toNat)
  case atStart => exact ⟨0, Nat.zero_le _, rfl, Below.refl _ _⟩
  case round =>
    obtain ⟨k, hk, rfl, hB⟩ := hrel
    by_cases hlt : k < n
    · obtain ⟨b1, o1, l, rfl, hl1, hx, c0, c1, c2, c3⟩ := (ha.below hB (Nat.le_refl _)).at_ (show k < ps.length by rw [HN.out]; exact hlt)
      obtain ⟨b2, o2, m, rfl, hl2, hy, d0, d1, d2, d3⟩ := (hb.below hB (Nat.le_refl _)).at_ (show k < ps.length by rw [HN.out]; exact hlt)
      rw [hx] at hy
      injection hy with hy
      subst hy
      clear hx
      go_wp2_with fail
      go_quiet (fail)
      go_wp2_with fail
      go_roundw
      case rel => exact ⟨k + 1, by omega, by go_num, hB.trans (Below.mono ⟨rfl, rfl, rfl, Nat.le_refl _, fun _ _ => rfl⟩ hB.size)⟩
      case measure => simp [intOf]; omega
    · go_wp2
      go_ret
      exact ⟨rfl, hB⟩

/-- The code of Put, and its answer. -/
def putC (ps : List L) (at_ : Int) (l : L) : Int := if fe (vp ps) (vl l) = 0 then (if btw at_ 0 ((ps.length : Int) - 1) then 0 else 4) else fe (vp ps) (vl l)
def putP (ps : List L) (at_ : Int) (l : L) : List L := if putC ps at_ l = 0 then ps.set at_.toNat l else []
theorem putP_length (ps : List L) (at_ : Int) (l : L) : (putP ps at_ l).length ≤ ps.length := by unfold putP; split <;> simp

theorem vl_isLn {l : L} (h : vl l = 0) : isLn l = true := by unfold vl at h; split at h <;> simp_all
theorem info_ln : (Try.prog.info? 40).map (·.size) = some 4 := by kernel_rfl
theorem one_line (l : L) : (#[.int .i64 l.op, .int .i64 l.to, .int .i64 l.a, .int .i64 l.b] : Array Value).all (·.oneCell') = true := by simp [Value.oneCell']
theorem setCells4 (W : World) (g o : Nat) (a b c d : Value) : W.setCells g o [a, b, c, d] = (((W.setCell ⟨g, o, none⟩ a).setCell ⟨g, o + 1, none⟩ b).setCell ⟨g, o + 2, none⟩ c).setCell ⟨g, o + 3, none⟩ d := rfl

/-- The line at is put into an owned row. -/
theorem puts_line {w W : World} {g n c : Nat} {ps : List L} (h : W.ownsRow w.heap.size 40 4 (.slice (some ⟨g, 0, none⟩) n c) n (lc ps)) {i : Nat} (hi : i < ps.length) (l : L) (hB : Below w.heap.size w W) :
    (W.setCells g (i * 4) [.int .i64 l.op, .int .i64 l.to, .int .i64 l.a, .int .i64 l.b]).ownsRow w.heap.size 40 4 (.slice (some ⟨g, 0, none⟩) n c) n (lc (ps.set i l)) ∧ Below w.heap.size w (W.setCells g (i * 4) [.int .i64 l.op, .int .i64 l.to, .int .i64 l.a, .int .i64 l.b]) := by
  have hg := own_base' h
  rw [setCells4]
  exact ⟨own_setLine h hi l, (((hB.setCell (p := ⟨g, _, none⟩) hg _).setCell (p := ⟨g, _, none⟩) hg _).setCell (p := ⟨g, _, none⟩) hg _).setCell (p := ⟨g, _, none⟩) hg _⟩

set_option maxRecDepth 100000 in
set_option maxHeartbeats 1000000 in
theorem rPut_any (a : Option Addr) (cap : Nat) (ps : List L) (at_ : Int) (l : L) (w : World) (hp : LinesAt w a ps) (hc : a = none → cap = 0) (hm : ps.length ≤ 1000) :
    Calls Try.prog 43 #[.slice a ps.length cap, .int .i64 at_, lv l] w (GivesLinesE (putP ps at_ l) (putC ps at_ l) w) := by
  have HV := Lib.hid (fun w hp => rValidate_any a cap ps w hp)
  have HI := Lib.hid (fun w => rIsLine_any l w)
  unfold lv at HI ⊢
  by_cases hz : vp ps = 0
  · have HZ := Lib.hid hz
    cases hl : isLn l
    · have HE := Lib.hid (show putC ps at_ l = 1 by unfold putC fe vl; rw [hz, hl]; rfl)
      have HP := Lib.hid (show putP ps at_ l = [] by unfold putP; rw [HE.out]; rfl)
      rw [HP.out, HE.out]
      rw [hl] at HI
      clear hz hl
      go_enter Try.func43, Try.ntmps43
      go_wp2_with fail
      refine (HV.out _ (hp.below ((Below.refl _ _).alloc (Nat.le_refl _) _) (Nat.le_refl _))).mono ?_
      rintro e w1 ⟨rfl, hB1⟩
      rw [HZ.out]
      have hB2 := ((Below.refl w.heap.size w).alloc (Nat.le_refl _) (.cells #[.int .i64 l.op, .int .i64 l.to, .int .i64 l.a, .int .i64 l.b] 40)).trans (hB1.mono (by simp))
      have hb := hp_below (hp_new (w := w) (o := .cells #[.int .i64 l.op, .int .i64 l.to, .int .i64 l.a, .int .i64 l.b] 40) rfl) hB1 (by simp)
      have c0 := hp_cell hb (j := 0) (by rfl)
      have c1 := hp_cell hb (j := 1) (by rfl)
      have c2 := hp_cell hb (j := 2) (by rfl)
      have c3 := hp_cell hb (j := 3) (by rfl)
      clear hb hB1
      go_wp2_with fail
      refine (HI.out _).mono ?_
      rintro e w2 ⟨rfl, hB3⟩
      go_wp2_with fail
      go_ret2
      exact givesLinesE_nil (hB2.trans (hB3.mono hB2.size))
    · have hfe : fe (vp ps) (vl l) = 0 := by unfold fe vl; rw [hz, hl]; rfl
      cases hb : btw at_ 0 ((ps.length : Int) - 1)
      · have HE := Lib.hid (show putC ps at_ l = 4 by unfold putC; rw [if_pos hfe, hb]; rfl)
        have HP := Lib.hid (show putP ps at_ l = [] by unfold putP; rw [HE.out]; rfl)
        rw [HP.out, HE.out]
        rw [hl] at HI
        have HW := Lib.hid (fun w => within_any at_ 0 ((ps.length : Int) - 1) w)
        rw [hb] at HW
        clear hz hl hb hfe
        go_enter Try.func43, Try.ntmps43
        go_wp2_with fail
        refine (HV.out _ (hp.below ((Below.refl _ _).alloc (Nat.le_refl _) _) (Nat.le_refl _))).mono ?_
        rintro e w1 ⟨rfl, hB1⟩
        rw [HZ.out]
        have hB2 := ((Below.refl w.heap.size w).alloc (Nat.le_refl _) (.cells #[.int .i64 l.op, .int .i64 l.to, .int .i64 l.a, .int .i64 l.b] 40)).trans (hB1.mono (by simp))
        have hb := hp_below (hp_new (w := w) (o := .cells #[.int .i64 l.op, .int .i64 l.to, .int .i64 l.a, .int .i64 l.b] 40) rfl) hB1 (by simp)
        have c0 := hp_cell hb (j := 0) (by rfl)
        have c1 := hp_cell hb (j := 1) (by rfl)
        have c2 := hp_cell hb (j := 2) (by rfl)
        have c3 := hp_cell hb (j := 3) (by rfl)
        clear hb hB1
        go_wp2_with fail
        refine (HI.out _).mono ?_
        rintro e w2 ⟨rfl, hB3⟩
        have hB4 := hB2.trans (hB3.mono hB2.size)
        clear c0 c1 c2 c3 hB3 hB2
        go_wp2_with (go_at_call 68; refine (HW.out _).mono ?_; rintro e w' ⟨rfl, rfl⟩)
        go_ret2
        exact givesLinesE_nil hB4
      · have HE := Lib.hid (show putC ps at_ l = 0 by unfold putC; rw [if_pos hfe, hb]; rfl)
        have HP := Lib.hid (show putP ps at_ l = ps.set at_.toNat l by unfold putP; rw [HE.out]; rfl)
        rw [HP.out, HE.out]
        rw [hl] at HI
        have HW := Lib.hid (fun w => within_any at_ 0 ((ps.length : Int) - 1) w)
        rw [hb] at HW
        obtain ⟨at0, at1⟩ := btw_true.1 hb
        have HC := Lib.hid (fun w hp => copy_any a cap ps w hp hc hm)
        clear hz hl hb hfe
        go_enter Try.func43, Try.ntmps43
        go_wp2_with fail
        refine (HV.out _ (hp.below ((Below.refl _ _).alloc (Nat.le_refl _) _) (Nat.le_refl _))).mono ?_
        rintro e w1 ⟨rfl, hB1⟩
        rw [HZ.out]
        have hB2 := ((Below.refl w.heap.size w).alloc (Nat.le_refl _) (.cells #[.int .i64 l.op, .int .i64 l.to, .int .i64 l.a, .int .i64 l.b] 40)).trans (hB1.mono (by simp))
        have hb := Lib.hid (hp_below (hp_new (w := w) (o := .cells #[.int .i64 l.op, .int .i64 l.to, .int .i64 l.a, .int .i64 l.b] 40) rfl) hB1 (by simp))
        have c0 := hp_cell hb.out (j := 0) (by rfl)
        have c1 := hp_cell hb.out (j := 1) (by rfl)
        have c2 := hp_cell hb.out (j := 2) (by rfl)
        have c3 := hp_cell hb.out (j := 3) (by rfl)
        clear hB1
        go_wp2_with fail
        refine (HI.out _).mono ?_
        rintro e w2 ⟨rfl, hB3⟩
        have hB4 := hB2.trans (hB3.mono hB2.size)
        have hb2 := Lib.hid (hp_below hb.out hB3 (hp_lt hb.out))
        clear c0 c1 c2 c3 hB3 hB2 hb
        go_wp2_with (go_at_call 68; refine (HW.out _).mono ?_; rintro e w' ⟨rfl, rfl⟩)
        refine (HC.out _ (hp.below hB4 (Nat.le_refl _))).mono ?_
        intro e w3 hG
        obtain ⟨a1, c1, rfl, hown, hB5⟩ := hG
        have hlt : at_.toNat < ps.length := by omega
        obtain ⟨g, rfl⟩ := own_form hown (by omega)
        have hb3 := hp_below hb2.out hB5 (hp_lt hb2.out)
        have c0 := hp_cell hb3 (j := 0) (by rfl)
        have c1 := hp_cell hb3 (j := 1) (by rfl)
        have c2 := hp_cell hb3 (j := 2) (by rfl)
        have c3 := hp_cell hb3 (j := 3) (by rfl)
        have hB6 := hB4.trans (hB5.mono hB4.size)
        have hown2 := own_mono hown hB4.size
        have HTh := Lib.hid (own_there hown hlt)
        have HPL := Lib.hid (puts_line hown2 hlt l hB6)
        have HO := Lib.hid (one_line l)
        clear hown hown2 hB5 hb3 hb2 hB4
        go_wp2_with (refine wpList_store_mid rfl 40 (.tmp 29) (.tmp 28) rfl g (at_.toNat * 4) #[.int .i64 l.op, .int .i64 l.to, .int .i64 l.a, .int .i64 l.b] rfl rfl HTh.out info_ln HO.out ?_)
        go_ret2
        exact ⟨_, _, by rw [List.length_set]; rfl, by rw [List.length_set]; exact HPL.out.1, HPL.out.2⟩
  · have hne : fe (vp ps) (vl l) = vp ps := by unfold fe; rw [if_neg hz]
    have HE := Lib.hid (show putC ps at_ l = vp ps by unfold putC; rw [hne, if_neg hz])
    have HP := Lib.hid (show putP ps at_ l = [] by unfold putP; rw [HE.out, if_neg hz])
    rw [HP.out, HE.out]
    generalize vp ps = c at HV hz
    have hz1 : (c != 0) = true := by simpa using hz
    have hz2 : (c == 0) = false := by simpa using hz
    clear hz hne HE HP
    go_enter Try.func43, Try.ntmps43
    go_wp2_with fail
    refine (HV.out _ (hp.below ((Below.refl _ _).alloc (Nat.le_refl _) _) (Nat.le_refl _))).mono ?_
    rintro e w1 ⟨rfl, hB1⟩
    go_wp2_with fail
    go_ret2
    exact givesLinesE_nil (((Below.refl _ _).alloc (Nat.le_refl _) _).trans (hB1.mono (by simp)))

end Go.Proofs.Ytmideaancmpafaa
