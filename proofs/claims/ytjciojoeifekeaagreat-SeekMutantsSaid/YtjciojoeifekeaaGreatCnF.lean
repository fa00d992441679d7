/- Several texts in one. -/
import Derived.Test.YtjciojoeifekeaaGreatSrc
import Derived.Test.YtjciojoeifekeaaGreatNear
import Derived.Test.YtjciojoeifekeaaGreatCdM
/- candidates of seek: contract. -/
set_option linter.unusedVariables false
set_option linter.unusedSimpArgs false
namespace Go.Proofs.YtjciojoeifekeaaGreat
open Go.RowKit Go.Shelf Tinker

/-- others, of a list that the caller owns, be it nil or not. -/
theorem othersO_any (base c : Nat) (a : Option Addr) (zs : List L) (l : L) (w : World) (hO : w.ownsRow base 23 4 (.slice a zs.length c) zs.length (lc zs)) (hm : zs.length ≤ 1000) (hb : base ≤ w.heap.size) :
    Calls Tryz.prog 73 #[.slice a zs.length c, lv l] w fun e w' => ∃ a' c', e = .returned (.slice a' (othL zs l).length c') ∧ w'.ownsRow base 23 4 (.slice a' (othL zs l).length c') (othL zs l).length (lc (othL zs l)) ∧ Below base w w' := by
  cases a with
  | none =>
    have hz := (lines_of_own hO).1.none
    have hc := own_nil hO rfl
    subst hz hc
    refine (othersNil_any l w).mono ?_
    rintro e w' ⟨rfl, hB⟩
    rw [othL_nil]
    exact ⟨none, 0, rfl, World.ownsRow_nil _ _ _ _, hB.mono hb⟩
  | some ad =>
    have had : ∃ g, ad = ⟨g, 0, none⟩ := by
      rcases hO.2 with ⟨he, _⟩ | ⟨g', cap, cur, he, _⟩
      · cases he
      · injection he with h1
        injection h1 with h1
        exact ⟨g', h1⟩
    obtain ⟨g, rfl⟩ := had
    refine (others_any g base c zs l w hO hm).mono ?_
    rintro e w' ⟨rfl, hO', hF⟩
    exact ⟨_, _, rfl, hO', hF.below (own_base' hO) hb⟩

set_option maxRecDepth 100000 in
set_option maxHeartbeats 4000000 in
theorem candidates_any (a : Option Addr) (ca : Nat) (ps : List L) (i : Nat) (n : Int) (w : World) (hp : LinesAt w a ps) (hv : vp ps = 0) (hi : i < ps.length) (h0 : 0 ≤ n) (h2 : n ≤ 2) :
    Calls Tryz.prog 84 #[.slice a ps.length ca, .int .i64 (i : Int), srcV n] w (GivesLines (cndL ps i n) w) := by
  obtain ⟨h8, hvl⟩ := vp_ok hv
  obtain ⟨b, off, l, rfl, hlb, hl, c0, c1, c2, c3⟩ := hp.at_ hi
  have hvl := hvl l (mem_of_get hl)
  have HD := Lib.hid (lnD_at hl)
  have HP := Lib.hid hp
  have HT := Lib.hid (fun w => templates_any l w hvl)
  have HC := Lib.hid (fun w h => cloneLines_any (some ⟨b, off, none⟩) ca ps w h (by omega))
  have HA := Lib.hid (fun w => sAll_any w)
  have HO := Lib.hid (fun base c a zs w h1 h2 h3 => othersO_any base c a zs l w h1 h2 h3)
  have HL := Lib.hid (show ∀ B W, Below B w W → w.heap.size ≤ B → W.cell? ⟨b, off + i * 4, none⟩ = some (.int .i64 l.op) ∧ W.cell? ⟨b, off + i * 4 + 1, none⟩ = some (.int .i64 l.to) ∧ W.cell? ⟨b, off + i * 4 + 2, none⟩ = some (.int .i64 l.a) ∧ W.cell? ⟨b, off + i * 4 + 3, none⟩ = some (.int .i64 l.b) from fun B W hB hle =>
    ⟨(hB.cell (p := ⟨b, _, none⟩) (Nat.lt_of_lt_of_le hlb hle)).trans c0, (hB.cell (p := ⟨b, _, none⟩) (Nat.lt_of_lt_of_le hlb hle)).trans c1, (hB.cell (p := ⟨b, _, none⟩) (Nat.lt_of_lt_of_le hlb hle)).trans c2, (hB.cell (p := ⟨b, _, none⟩) (Nat.lt_of_lt_of_le hlb hle)).trans c3⟩)
  have ha := allL_len9
  unfold lv at HT HO
  have hn : n = 0 ∨ n = 1 ∨ n = 2 := by omega
  have i1 : (0 : Int) ≤ (i : Int) := by omega
  have i2 : (i : Int) < (ps.length : Int) := by omega
  clear hp hv hl hvl h0 h2
  rcases hn with rfl | rfl | rfl
  · rw [show srcV 0 = .iface 114 (.agg #[]) from rfl, show cndL ps i 0 = othL (tmpl l) l by unfold cndL; rw [if_pos rfl, HD.out]]
    have ta00 : ∀ W : World, Sem.run Tryz.prog (Instr.typeAssert (.iface 114 (.agg #[])) 69 114 true) W = .ok (.tuple #[.agg #[], .bool true]) W := fun W => by kernel_rfl
    have htl := tmpl_len9 l
    generalize tmpl l = T at *
    clear HC HA
    go_enter Tryz.func84, Tryz.ntmps84
    go_wp2_with fail
    refine (HT.out _).mono ?_
    rintro e w1 ⟨aq, cq, rfl, hq, hB⟩
    have HQ := Lib.hid hq
    have HB := Lib.hid hB
    obtain ⟨d0, d1, d2, d3⟩ := HL.out _ _ hB (Nat.le_refl _)
    clear hq hB c0 c1 c2 c3
    go_wp2_with fail
    refine (HO.out w.heap.size cq aq T w1 HQ.out htl HB.out.size).mono ?_
    rintro e w2 ⟨a9, c9, rfl, hO9, hB9⟩
    have HO9 := Lib.hid hO9
    have HB9 := Lib.hid (HB.out.trans hB9)
    clear hO9 hB9 d0 d1 d2 d3
    go_wp2_with fail
    go_ret
    exact ⟨_, _, rfl, HO9.out, HB9.out⟩
  · rw [show srcV 1 = .iface 131 (.agg #[]) from rfl, show cndL ps i 1 = othL ps l by unfold cndL; rw [if_neg (by decide), if_pos rfl, HD.out]]
    have ta10 : ∀ W : World, Sem.run Tryz.prog (Instr.typeAssert (.iface 131 (.agg #[])) 69 114 true) W = .ok (.tuple #[.agg #[], .bool false]) W := fun W => by kernel_rfl
    have ta11 : ∀ W : World, Sem.run Tryz.prog (Instr.typeAssert (.iface 131 (.agg #[])) 69 131 true) W = .ok (.tuple #[.agg #[], .bool true]) W := fun W => by kernel_rfl
    have htl : ps.length ≤ 1000 := by omega
    clear HT HA
    go_enter Tryz.func84, Tryz.ntmps84
    go_wp2_with fail
    refine (HC.out _ HP.out).mono ?_
    rintro e w1 ⟨aq, cq, rfl, hq, hB⟩
    have HQ := Lib.hid hq
    have HB := Lib.hid hB
    obtain ⟨d0, d1, d2, d3⟩ := HL.out _ _ hB (Nat.le_refl _)
    clear hq hB c0 c1 c2 c3
    go_wp2_with fail
    refine (HO.out w.heap.size cq aq ps w1 HQ.out htl HB.out.size).mono ?_
    rintro e w2 ⟨a9, c9, rfl, hO9, hB9⟩
    have HO9 := Lib.hid hO9
    have HB9 := Lib.hid (HB.out.trans hB9)
    clear hO9 hB9 d0 d1 d2 d3
    go_wp2_with fail
    go_ret
    exact ⟨_, _, rfl, HO9.out, HB9.out⟩
  · rw [show srcV 2 = .iface 132 (.agg #[]) from rfl, show cndL ps i 2 = othL allL l by unfold cndL; rw [if_neg (by decide), if_neg (by decide), HD.out]]
    have ta20 : ∀ W : World, Sem.run Tryz.prog (Instr.typeAssert (.iface 132 (.agg #[])) 69 114 true) W = .ok (.tuple #[.agg #[], .bool false]) W := fun W => by kernel_rfl
    have ta21 : ∀ W : World, Sem.run Tryz.prog (Instr.typeAssert (.iface 132 (.agg #[])) 69 131 true) W = .ok (.tuple #[.agg #[], .bool false]) W := fun W => by kernel_rfl
    have ta22 : ∀ W : World, Sem.run Tryz.prog (Instr.typeAssert (.iface 132 (.agg #[])) 69 132 true) W = .ok (.tuple #[.agg #[], .bool true]) W := fun W => by kernel_rfl
    have htl := ha
    generalize allL = T at *
    clear HC HT
    go_enter Tryz.func84, Tryz.ntmps84
    go_wp2_with fail
    refine (HA.out _).mono ?_
    rintro e w1 ⟨aq, cq, rfl, hq, hB⟩
    have HQ := Lib.hid hq
    have HB := Lib.hid hB
    obtain ⟨d0, d1, d2, d3⟩ := HL.out _ _ hB (Nat.le_refl _)
    clear hq hB c0 c1 c2 c3
    go_wp2_with fail
    refine (HO.out w.heap.size cq aq T w1 HQ.out htl HB.out.size).mono ?_
    rintro e w2 ⟨a9, c9, rfl, hO9, hB9⟩
    have HO9 := Lib.hid hO9
    have HB9 := Lib.hid (HB.out.trans hB9)
    clear hO9 hB9 d0 d1 d2 d3
    go_wp2_with fail
    go_ret
    exact ⟨_, _, rfl, HO9.out, HB9.out⟩

end Go.Proofs.YtjciojoeifekeaaGreat

/- validateKind, validatePlace, Candidates of seek: contracts. -/
set_option linter.unusedVariables false
set_option linter.unusedSimpArgs false
namespace Go.Proofs.YtjciojoeifekeaaGreat
open Go.RowKit Go.Shelf Tinker

set_option maxRecDepth 100000 in
set_option maxHeartbeats 2000000 in
theorem sourceOfNo_any (n : Int) (w : World) (hn : n < 0 ∨ 2 < n) : Calls Tryz.prog 45 #[.int .i64 n] w fun e w' => e = .returned (.tuple #[.nilIface, .bool false]) ∧ Below w.heap.size w w' := by
  have HS := Lib.hid (fun w => sources_any w)
  have HK0 := Lib.hid (fun w => kind0_any w)
  have HK1 := Lib.hid (fun w => kind1_any w)
  have HK2 := Lib.hid (fun w => kind2_any w)
  have hm0 : ∀ (k : Nat) (w : World), Sem.run Tryz.prog (method (k + 1) 114 (.agg #[]) "tinker/seek.kind") w = .ok (189, .agg #[]) w := fun k w => by kernel_rfl
  have hm1 : ∀ (k : Nat) (w : World), Sem.run Tryz.prog (method (k + 1) 131 (.agg #[]) "tinker/seek.kind") w = .ok (190, .agg #[]) w := fun k w => by kernel_rfl
  have hm2 : ∀ (k : Nat) (w : World), Sem.run Tryz.prog (method (k + 1) 132 (.agg #[]) "tinker/seek.kind") w = .ok (191, .agg #[]) w := fun k w => by kernel_rfl
  have q0 : ((0 : Int) == n) = false := by simp; omega
  have q1 : ((1 : Int) == n) = false := by simp; omega
  have q2 : ((2 : Int) == n) = false := by simp; omega
  clear hn
  go_enter Tryz.func45, Tryz.ntmps45
  go_wp2_with fail
  refine (HS.out _).mono ?_
  rintro e w1 ⟨rfl, hg, hB⟩
  have HG := Lib.hid hg
  have HB := Lib.hid hB
  clear hg hB HS
  go_wp2_with fail
  go_loopw [8] (fun s8 wr => ∃ k : Nat, k ≤ 3 ∧ s8 = .int .i64 k ∧ wr.heap[w.heap.size]? = some (.cells srcC 69 (0, 0)) ∧ Below w.heap.size w wr) (fun s8 _ => 3 - (intOf s8).toNat)
  case atStart => exact ⟨0, by omega, rfl, HG.out, HB.out⟩
  case round =>
    clear HG HB
    obtain ⟨k, hk, rfl, hg, hB⟩ := hrel
    have HG := Lib.hid hg
    have HB := Lib.hid hB
    have hk3 : k = 0 ∨ k = 1 ∨ k = 2 ∨ k = 3 := by omega
    clear hg hB
    have g0 : wr.cell? ⟨w.heap.size, 0, none⟩ = some (.iface 114 (.agg #[])) := hp_cell HG.out (by rfl)
    have g1 : wr.cell? ⟨w.heap.size, 1, none⟩ = some (.iface 131 (.agg #[])) := hp_cell HG.out (by rfl)
    have g2 : wr.cell? ⟨w.heap.size, 2, none⟩ = some (.iface 132 (.agg #[])) := hp_cell HG.out (by rfl)
    rcases hk3 with rfl | rfl | rfl | rfl
    · go_wp2_with fail
      refine (HK0.out _).mono ?_
      rintro e w2 ⟨rfl, hB⟩
      have HG := Lib.hid (hp_below HG.out hB (hp_lt HG.out))
      have HB := Lib.hid (HB.out.trans (hB.mono HB.out.size))
      clear hB g0 g1 g2
      go_wp2_with fail
      go_roundw
      case rel => exact ⟨1, by omega, by go_num, HG.out, HB.out⟩
      case measure => simp [intOf]
    · go_wp2_with fail
      refine (HK1.out _).mono ?_
      rintro e w2 ⟨rfl, hB⟩
      have HG := Lib.hid (hp_below HG.out hB (hp_lt HG.out))
      have HB := Lib.hid (HB.out.trans (hB.mono HB.out.size))
      clear hB g0 g1 g2
      go_wp2_with fail
      go_roundw
      case rel => exact ⟨2, by omega, by go_num, HG.out, HB.out⟩
      case measure => simp [intOf]
    · go_wp2_with fail
      refine (HK2.out _).mono ?_
      rintro e w2 ⟨rfl, hB⟩
      have HG := Lib.hid (hp_below HG.out hB (hp_lt HG.out))
      have HB := Lib.hid (HB.out.trans (hB.mono HB.out.size))
      clear hB g0 g1 g2
      go_wp2_with fail
      go_roundw
      case rel => exact ⟨3, by omega, by go_num, HG.out, HB.out⟩
      case measure => simp [intOf]
    · clear g0 g1 g2
      go_wp2_with fail
      go_ret2
      exact ⟨rfl, HB.out⟩

/-- The code of a kind. -/
def kdC (n : Int) : Int := if 0 ≤ n ∧ n ≤ 2 then 0 else 1
set_option maxHeartbeats 1000000 in
theorem validateKind_any (n : Int) (w : World) : Calls Tryz.prog 43 #[.int .i64 n] w fun e w' => e = .returned (.int .i64 (kdC n)) ∧ Below w.heap.size w w' := by
  by_cases hn : 0 ≤ n ∧ n ≤ 2
  · have H := Lib.hid (fun w => sourceOf_any n w hn.1 hn.2)
    rw [show kdC n = 0 by unfold kdC; rw [if_pos hn]]
    clear hn
    generalize srcV n = v at H
    go_enter Tryz.func43, Tryz.ntmps43
    go_wp2_with fail
    refine (H.out _).mono ?_
    rintro e w1 ⟨rfl, hB⟩
    have HB := Lib.hid hB
    clear hB
    go_wp2_with fail
    go_ret
    exact ⟨rfl, HB.out⟩
  · have H := Lib.hid (fun w => sourceOfNo_any n w (by omega))
    rw [show kdC n = 1 by unfold kdC; rw [if_neg hn]]
    clear hn
    go_enter Tryz.func43, Tryz.ntmps43
    go_wp2_with fail
    refine (H.out _).mono ?_
    rintro e w1 ⟨rfl, hB⟩
    have HB := Lib.hid hB
    clear hB
    go_wp2_with fail
    go_ret
    exact ⟨rfl, HB.out⟩

end Go.Proofs.YtjciojoeifekeaaGreat

/- validatePlace, Candidates of seek: contracts. -/
set_option linter.unusedVariables false
set_option linter.unusedSimpArgs false
namespace Go.Proofs.YtjciojoeifekeaaGreat
open Go.RowKit Go.Shelf Tinker

/-- The code of a place. -/
def plC (ps : List L) (n : Int) : Int := if btw n 0 ((ps.length : Int) - 1) = true then 0 else 4
set_option maxHeartbeats 1000000 in
theorem validatePlace_any (a : Option Addr) (ca : Nat) (ps : List L) (n : Int) (w : World) (hm : ps.length ≤ 1000) : Calls Tryz.prog 42 #[.slice a ps.length ca, .int .i64 n] w fun e w' => e = .returned (.int .i64 (plC ps n)) ∧ w = w' := by
  have H := Lib.hid (fun w => isBetween_any n 0 ((ps.length : Int) - 1) w)
  have hw : IntKind.i64.wrap ((ps.length : Int) - 1) = (ps.length : Int) - 1 := IntWalk.i64_in _ (by omega)
  unfold plC
  generalize btw n 0 ((ps.length : Int) - 1) = b at *
  cases b
  · rw [if_neg (by decide)]
    go_enter Tryz.func42, Tryz.ntmps42
    go_wp2_with fail
    refine (H.out _).mono ?_
    rintro e w1 ⟨rfl, rfl⟩
    go_wp2_with fail
    go_ret
    exact ⟨rfl, rfl⟩
  · rw [if_pos rfl]
    go_enter Tryz.func42, Tryz.ntmps42
    go_wp2_with fail
    refine (H.out _).mono ?_
    rintro e w1 ⟨rfl, rfl⟩
    go_wp2_with fail
    go_ret
    exact ⟨rfl, rfl⟩

/-- The code of Candidates, and its lines. -/
def cdC (ps : List L) (i n : Int) : Int := feL [vp ps, plC ps i, kdC n]
def cdR (ps : List L) (i n : Int) : List L := if cdC ps i n = 0 then cndL ps i.toNat n else []
theorem cdC_ok {ps : List L} {i n : Int} (h : cdC ps i n = 0) : vp ps = 0 ∧ (0 ≤ i ∧ i < (ps.length : Int)) ∧ 0 ≤ n ∧ n ≤ 2 := by
  unfold cdC at h
  simp only [feL] at h
  by_cases h1 : vp ps = 0
  · rw [if_pos h1] at h
    by_cases h2 : plC ps i = 0
    · rw [if_pos h2] at h
      have h3 : kdC n = 0 := by
        by_cases h3 : kdC n = 0
        · exact h3
        · rw [if_neg h3] at h; exact absurd h h3
      refine ⟨h1, ?_, ?_⟩
      · unfold plC at h2
        split at h2
        · rename_i hb
          have := btw_true.1 hb
          omega
        · cases h2
      · unfold kdC at h3
        split at h3
        · assumption
        · cases h3
    · rw [if_neg h2] at h; exact absurd h h2
  · rw [if_neg h1] at h; exact absurd h h1

end Go.Proofs.YtjciojoeifekeaaGreat
