/- Several texts in one. -/
import Derived.Test.YtfclfmloceddfaaGreatSrc
import Derived.Test.YtfclfmloceddfaaGreatNear
import Derived.Test.YtfclfmloceddfaaGreatCdM
/- candidates of seek: contract. -/
set_option linter.unusedVariables false
set_option linter.unusedSimpArgs false
namespace Go.Proofs.YtfclfmloceddfaaGreat
open Go.RowKit Go.Shelf Tinker

/-- others, of a list that the caller owns, be it nil or not. -/
theorem othersO_any (base c : Nat) (a : Option Addr) (zs : List L) (l : L) (w : World) (hO : w.ownsRow base 42 4 (.slice a zs.length c) zs.length (lc zs)) (hm : zs.length ≤ 1000) (hb : base ≤ w.heap.size) :
    Calls Tryz.prog 84 #[.slice a zs.length c, lv l] w fun e w' => ∃ a' c', e = .returned (.slice a' (othL zs l).length c') ∧ w'.ownsRow base 42 4 (.slice a' (othL zs l).length c') (othL zs l).length (lc (othL zs l)) ∧ Below base w w' := by
  cases a with
  | none =>
    have hz := (lines_of_own hO).1.none
    have hc := own_nil hO rfl
    subst hz hc
    refine (othersNil_any l w).mono ?_
    rintro e w' ⟨rfl, hB⟩
    rw [othL_nil]
    exact ⟨none, 0, rfl, World.ownsRow_nil _ _ _ _, hB.mono hb⟩
  | some ad =>
    have had : ∃ g, ad = ⟨g, 0, none⟩ := by
      rcases hO.2 with ⟨he, _⟩ | ⟨g', cap, cur, he, _⟩
      · cases he
      · injection he with h1
        injection h1 with h1
        exact ⟨g', h1⟩
    obtain ⟨g, rfl⟩ := had
    refine (others_any g base c zs l w hO hm).mono ?_
    rintro e w' ⟨rfl, hO', hF⟩
    exact ⟨_, _, rfl, hO', hF.below (own_base' hO) hb⟩

set_option maxRecDepth 100000 in
set_option maxHeartbeats 4000000 in
theorem candidates_any (a : Option Addr) (ca : Nat) (ps : List L) (i : Nat) (n : Int) (w : World) (hp : LinesAt w a ps) (hv : vp ps = 0) (hi : i < ps.length) (h0 : 0 ≤ n) (h2 : n ≤ 2) :
    Calls Tryz.prog 60 #[.slice a ps.length ca, .int .i64 (i : Int), srcV n] w (GivesLines (cndL ps i n) w) := by
  obtain ⟨h8, hvl⟩ := vp_ok hv
  obtain ⟨b, off, l, rfl, hlb, hl, c0, c1, c2, c3⟩ := hp.at_ hi
  have hvl := hvl l (mem_of_get hl)
  have HD := Lib.hid (lnD_at hl)
  have HP := Lib.hid hp
  have HT := Lib.hid (fun w => templates_any l w hvl)
  have HC := Lib.hid (fun w h => cloneLines_any (some ⟨b, off, none⟩) ca ps w h (by omega))
  have HA := Lib.hid (fun w => sAll_any w)
  have HO := Lib.hid (fun base c a zs w h1 h2 h3 => othersO_any base c a zs l w h1 h2 h3)
  have HL := Lib.hid (show ∀ B W, Below B w W → w.heap.size ≤ B → W.cell? ⟨b, off + i * 4, none⟩ = some (.int .i64 l.op) ∧ W.cell? ⟨b, off + i * 4 + 1, none⟩ = some (.int .i64 l.to) ∧ W.cell? ⟨b, off + i * 4 + 2, none⟩ = some (.int .i64 l.a) ∧ W.cell? ⟨b, off + i * 4 + 3, none⟩ = some (.int .i64 l.b) from fun B W hB hle =>
    ⟨(hB.cell (p := ⟨b, _, none⟩) (Nat.lt_of_lt_of_le hlb hle)).trans c0, (hB.cell (p := ⟨b, _, none⟩) (Nat.lt_of_lt_of_le hlb hle)).trans c1, (hB.cell (p := ⟨b, _, none⟩) (Nat.lt_of_lt_of_le hlb hle)).trans c2, (hB.cell (p := ⟨b, _, none⟩) (Nat.lt_of_lt_of_le hlb hle)).trans c3⟩)
  have ha := allL_len9
  unfold lv at HT HO
  have hn : n = 0 ∨ n = 1 ∨ n = 2 := by omega
  have i1 : (0 : Int) ≤ (i : Int) := by omega
  have i2 : (i : Int) < (ps.length : Int) := by omega
  clear hp hv hl hvl h0 h2
  rcases hn with rfl | rfl | rfl
  · rw [show srcV 0 = .iface 76 (.agg #[]) from rfl, show cndL ps i 0 = othL (tmpl l) l by unfold cndL; rw [if_pos rfl, HD.out]]
    have ta00 : ∀ W : World, Sem.run Tryz.prog (Instr.typeAssert (.iface 76 (.agg #[])) 55 76 true) W = .ok (.tuple #[.agg #[], .bool true]) W := fun W => by kernel_rfl
    have htl := tmpl_len9 l
    generalize tmpl l = T at *
    clear HC HA
    go_enter Tryz.func60, Tryz.ntmps60
    go_wp2_with fail
    refine (HT.out _).mono ?_
    rintro e w1 ⟨aq, cq, rfl, hq, hB⟩
    have HQ := Lib.hid hq
    have HB := Lib.hid hB
    obtain ⟨d0, d1, d2, d3⟩ := HL.out _ _ hB (Nat.le_refl _)
    clear hq hB c0 c1 c2 c3
    go_wp2_with fail
    refine (HO.out w.heap.size cq aq T w1 HQ.out htl HB.out.size).mono ?_
    rintro e w2 ⟨a9, c9, rfl, hO9, hB9⟩
    have HO9 := Lib.hid hO9
    have HB9 := Lib.hid (HB.out.trans hB9)
    clear hO9 hB9 d0 d1 d2 d3
    go_wp2_with fail
    go_ret
    exact ⟨_, _, rfl, HO9.out, HB9.out⟩
  · rw [show srcV 1 = .iface 86 (.agg #[]) from rfl, show cndL ps i 1 = othL ps l by unfold cndL; rw [if_neg (by decide), if_pos rfl, HD.out]]
    have ta10 : ∀ W : World, Sem.run Tryz.prog (Instr.typeAssert (.iface 86 (.agg #[])) 55 76 true) W = .ok (.tuple #[.agg #[], .bool false]) W := fun W => by kernel_rfl
    have ta11 : ∀ W : World, Sem.run Tryz.prog (Instr.typeAssert (.iface 86 (.agg #[])) 55 86 true) W = .ok (.tuple #[.agg #[], .bool true]) W := fun W => by kernel_rfl
    have htl : ps.length ≤ 1000 := by omega
    clear HT HA
    go_enter Tryz.func60, Tryz.ntmps60
    go_wp2_with fail
    refine (HC.out _ HP.out).mono ?_
    rintro e w1 ⟨aq, cq, rfl, hq, hB⟩
    have HQ := Lib.hid hq
    have HB := Lib.hid hB
    obtain ⟨d0, d1, d2, d3⟩ := HL.out _ _ hB (Nat.le_refl _)
    clear hq hB c0 c1 c2 c3
    go_wp2_with fail
    refine (HO.out w.heap.size cq aq ps w1 HQ.out htl HB.out.size).mono ?_
    rintro e w2 ⟨a9, c9, rfl, hO9, hB9⟩
    have HO9 := Lib.hid hO9
    have HB9 := Lib.hid (HB.out.trans hB9)
    clear hO9 hB9 d0 d1 d2 d3
    go_wp2_with fail
    go_ret
    exact ⟨_, _, rfl, HO9.out, HB9.out⟩
  · rw [show srcV 2 = .iface 87 (.agg #[]) from rfl, show cndL ps i 2 = othL allL l by unfold cndL; rw [if_neg (by decide), if_neg (by decide), HD.out]]
    have ta20 : ∀ W : World, Sem.run Tryz.prog (Instr.typeAssert (.iface 87 (.agg #[])) 55 76 true) W = .ok (.tuple #[.agg #[], .bool false]) W := fun W => by kernel_rfl
    have ta21 : ∀ W : World, Sem.run Tryz.prog (Instr.typeAssert (.iface 87 (.agg #[])) 55 86 true) W = .ok (.tuple #[.agg #[], .bool false]) W := fun W => by kernel_rfl
    have ta22 : ∀ W : World, Sem.run Tryz.prog (Instr.typeAssert (.iface 87 (.agg #[])) 55 87 true) W = .ok (.tuple #[.agg #[], .bool true]) W := fun W => by kernel_rfl
    have htl := ha
    generalize allL = T at *
    clear HC HT
    go_enter Tryz.func60, Tryz.ntmps60
    go_wp2_with fail
    refine (HA.out _).mono ?_
    rintro e w1 ⟨aq, cq, rfl, hq, hB⟩
    have HQ := Lib.hid hq
    have HB := Lib.hid hB
    obtain ⟨d0, d1, d2, d3⟩ := HL.out _ _ hB (Nat.le_refl _)
    clear hq hB c0 c1 c2 c3
    go_wp2_with fail
    refine (HO.out w.heap.size cq aq T w1 HQ.out htl HB.out.size).mono ?_
    rintro e w2 ⟨a9, c9, rfl, hO9, hB9⟩
    have HO9 := Lib.hid hO9
    have HB9 := Lib.hid (HB.out.trans hB9)
    clear hO9 hB9 d0 d1 d2 d3
    go_wp2_with fail
    go_ret
    exact ⟨_, _, rfl, HO9.out, HB9.out⟩

end Go.Proofs.YtfclfmloceddfaaGreat

/- validateKind, validatePlace, Candidates of seek: contracts. -/
set_option linter.unusedVariables false
set_option linter.unusedSimpArgs false
namespace Go.Proofs.YtfclfmloceddfaaGreat
open Go.RowKit Go.Shelf Tinker

/-- The code of a kind. -/
def kdC (n : Int) : Int := if 0 ≤ n ∧ n ≤ 2 then 0 else 1
end Go.Proofs.YtfclfmloceddfaaGreat

/- validatePlace, Candidates of seek: contracts. -/
set_option linter.unusedVariables false
set_option linter.unusedSimpArgs false
namespace Go.Proofs.YtfclfmloceddfaaGreat
open Go.RowKit Go.Shelf Tinker

/-- The code of a place. -/
def plC (ps : List L) (n : Int) : Int := if btw n 0 ((ps.length : Int) - 1) = true then 0 else 4
/-- The code of Candidates, and its lines. -/
def cdC (ps : List L) (i n : Int) : Int := feL [vp ps, plC ps i, kdC n]
def cdR (ps : List L) (i n : Int) : List L := if cdC ps i n = 0 then cndL ps i.toNat n else []
theorem cdC_ok {ps : List L} {i n : Int} (h : cdC ps i n = 0) : vp ps = 0 ∧ (0 ≤ i ∧ i < (ps.length : Int)) ∧ 0 ≤ n ∧ n ≤ 2 := by
  unfold cdC at h
  simp only [feL] at h
  by_cases h1 : vp ps = 0
  · rw [if_pos h1] at h
    by_cases h2 : plC ps i = 0
    · rw [if_pos h2] at h
      have h3 : kdC n = 0 := by
        by_cases h3 : kdC n = 0
        · exact h3
        · rw [if_neg h3] at h; exact absurd h h3
      refine ⟨h1, ?_, ?_⟩
      · unfold plC at h2
        split at h2
        · rename_i hb
          have := btw_true.1 hb
          omega
        · cases h2
      · unfold kdC at h3
        split at h3
        · assumption
        · cases h3
    · rw [if_neg h2] at h; exact absurd h h2
  · rw [if_neg h1] at h; exact absurd h h1

end Go.Proofs.YtfclfmloceddfaaGreat
