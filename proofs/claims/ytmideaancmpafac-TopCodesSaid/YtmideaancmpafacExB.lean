/- Exchange of both: contracts. -/
import Derived.Test.YtmideaancmpafacExA
import Derived.Test.YtmideaancmpafacPutB
import Derived.BigRegion
set_option linter.unusedVariables false
set_option linter.unusedSimpArgs false
namespace Go.Proofs.Ytmideaancmpafac
open Go.RowKit Tinker

def xcC (ps : List L) (n : Int) : Int := if epC ps n = 0 then (if ceB ps n.toNat then 0 else 6) else epC ps n
def xcP (ps : List L) (n : Int) : List L := if xcC ps n = 0 then swp ps n.toNat else []
theorem xcC_ok {ps : List L} {n : Int} (h : xcC ps n = 0) : epC ps n = 0 ∧ ceB ps n.toNat = true := by
  unfold xcC at h
  split at h
  · split at h
    · exact ⟨by assumption, by assumption⟩
    · cases h
  · exact absurd h (by assumption)
theorem xcP_length (ps : List L) (n : Int) : (xcP ps n).length ≤ ps.length := by unfold xcP; split <;> simp [swp_length]
theorem xcP_yes {ps : List L} {n : Int} (h : xcC ps n = 0) : xcP ps n = swp ps n.toNat := by unfold xcP; rw [if_pos h]
theorem xcP_no {ps : List L} {n : Int} (h : xcC ps n ≠ 0) : xcP ps n = [] := by unfold xcP; rw [if_neg h]

/-- Two lines are put into an owned row. -/
theorem two_lines {w W : World} {g n c : Nat} {ps : List L} (h : W.ownsRow w.heap.size 43 4 (.slice (some ⟨g, 0, none⟩) n c) n (lc ps)) {i j : Nat} (hi : i < ps.length) (hj : j < ps.length) (l m : L) (hB : Below w.heap.size w W) :
    ((W.setCells g (i * 4) [.int .i64 l.op, .int .i64 l.to, .int .i64 l.a, .int .i64 l.b]).setCells g (j * 4) [.int .i64 m.op, .int .i64 m.to, .int .i64 m.a, .int .i64 m.b]).ownsRow w.heap.size 43 4 (.slice (some ⟨g, 0, none⟩) n c) n (lc ((ps.set i l).set j m)) ∧ Below w.heap.size w ((W.setCells g (i * 4) [.int .i64 l.op, .int .i64 l.to, .int .i64 l.a, .int .i64 l.b]).setCells g (j * 4) [.int .i64 m.op, .int .i64 m.to, .int .i64 m.a, .int .i64 m.b]) := by
  obtain ⟨h1, h2⟩ := puts_line h hi l hB
  exact puts_line h1 (by rw [List.length_set]; exact hj) m h2

/-- The lines that are read, and the places that are written. -/
structure ExI (pb o1 o2 g q1 q2 : Nat) (l m : L) (W : World) : Prop where
  r1 : W.rangeAt pb o1 [.int .i64 l.op, .int .i64 l.to, .int .i64 l.a, .int .i64 l.b]
  r2 : W.rangeAt pb o2 [.int .i64 m.op, .int .i64 m.to, .int .i64 m.a, .int .i64 m.b]
  t1 : W.there g q1 4
  t2 : W.there g q2 4
  ne : ¬ pb = g
theorem ExI.put {pb o1 o2 g q1 q2 : Nat} {l m : L} {W : World} (h : ExI pb o1 o2 g q1 q2 l m W) (o : Nat) (vs : List Value) : ExI pb o1 o2 g q1 q2 l m (W.setCells g o vs) :=
  ⟨World.rangeAt_setCells_apart h.r1 _ _ _ (.inl h.ne), World.rangeAt_setCells_apart h.r2 _ _ _ (.inl h.ne), World.there_setCells h.t1 _ _ _, World.there_setCells h.t2 _ _ _, h.ne⟩

set_option maxRecDepth 100000 in
set_option maxHeartbeats 4000000 in
theorem exchange_any (a : Option Addr) (cap : Nat) (ps : List L) (n : Int) (w : World) (hp : LinesAt w a ps) (hm : ps.length ≤ 1000) (hcap : ps.length ≤ cap) :
    Calls Try.prog 20 #[.slice a ps.length cap, .int .i64 n] w (GivesLinesE (xcP ps n) (xcC ps n) w) := by
  have HV := Lib.hid (validatePair_any a cap ps n w hp hm)
  by_cases hz : epC ps n = 0
  · obtain ⟨h1, h2, h3⟩ := epC_ok hz
    obtain ⟨k, rfl⟩ : ∃ k : Nat, n = (k : Int) := ⟨n.toNat, by omega⟩
    rw [Int.toNat_natCast] at h3
    have h8 := (vp_ok h1).1
    have HC := Lib.hid (fun w hp => canExchange_any a cap ps k w hp (vp_ok h1).2 h3 (vp_ok h1).1 hcap)
    rw [hz] at HV
    cases hb : ceB ps k
    · have HE := Lib.hid (show xcC ps (k : Int) = 6 by unfold xcC; rw [if_pos hz, Int.toNat_natCast, hb]; rfl)
      have HP := Lib.hid (xcP_no (ps := ps) (n := (k : Int)) (by rw [HE.out]; decide))
      rw [HP.out, HE.out]
      rw [hb] at HC
      clear hz h1 h2 h3 hb
      go_enter Try.func20, Try.ntmps20
      go_wp2_with fail
      refine HV.out.mono ?_
      rintro e w1 ⟨rfl, hB⟩
      go_wp2_with fail
      refine (HC.out _ (hp.below hB (Nat.le_refl _))).mono ?_
      rintro e w2 ⟨rfl, hB2⟩
      go_wp2_with fail
      go_ret2
      exact givesLinesE_nil (hB.trans (hB2.mono hB.size))
    · have HE := Lib.hid (show xcC ps (k : Int) = 0 by unfold xcC; rw [if_pos hz, Int.toNat_natCast, hb]; rfl)
      have HP := Lib.hid (xcP_yes HE.out)
      rw [HP.out, HE.out, Int.toNat_natCast]
      rw [hb] at HC
      have HCl := Lib.hid (fun w hp => cloneLines_any a cap ps w hp hm)
      clear hz h1 h2 hb
      have k0 : (0 : Int) ≤ (k : Int) := by omega
      have k2 : (k : Int) ≤ 8 := by omega
      go_enter Try.func20, Try.ntmps20
      go_wp2_with fail
      refine HV.out.mono ?_
      rintro e w1 ⟨rfl, hB⟩
      go_wp2_with fail
      refine (HC.out _ (hp.below hB (Nat.le_refl _))).mono ?_
      rintro e w2 ⟨rfl, hB2⟩
      have hB3 := hB.trans (hB2.mono hB.size)
      clear hB hB2
      go_wp2_with fail
      refine (HCl.out _ (hp.below hB3 (Nat.le_refl _))).mono ?_
      intro e w3 hG
      obtain ⟨a1, c1, rfl, hown, hB5⟩ := hG
      obtain ⟨g, rfl⟩ := own_form hown (by omega)
      have hB6 := hB3.trans (hB5.mono hB3.size)
      have hown2 := own_mono hown hB3.size
      have hgl := own_base' hown
      obtain ⟨pb, po, l, rfl, hlb, hl, c0, c1', c2, c3⟩ := (hp.below hB3 (Nat.le_refl _)).at_ (show k < ps.length by omega)
      obtain ⟨pb', po', m, e', hmb, hm', d0, d1, d2, d3⟩ := (hp.below hB3 (Nat.le_refl _)).at_ h3
      injection e' with e'
      injection e' with e1 e2
      subst e1 e2
      have c0 := (hB5.cell (p := ⟨pb, _, none⟩) hlb).trans c0
      have c1' := (hB5.cell (p := ⟨pb, _, none⟩) hlb).trans c1'
      have c2 := (hB5.cell (p := ⟨pb, _, none⟩) hlb).trans c2
      have c3 := (hB5.cell (p := ⟨pb, _, none⟩) hlb).trans c3
      have d0 := (hB5.cell (p := ⟨pb, _, none⟩) hlb).trans d0
      have d1 := (hB5.cell (p := ⟨pb, _, none⟩) hlb).trans d1
      have d2 := (hB5.cell (p := ⟨pb, _, none⟩) hlb).trans d2
      have d3 := (hB5.cell (p := ⟨pb, _, none⟩) hlb).trans d3
      have ne1 : ¬ pb = g := by omega
      have ne2 : ¬ g = pb := by omega
      have HT1 := Lib.hid (own_there hown (show k < ps.length by omega))
      have HT2 := Lib.hid (own_there hown h3)
      have HO1 := Lib.hid (one_line l)
      have HO2 := Lib.hid (one_line m)
      have HS1 := Lib.hid (two_lines hown2 (show k < ps.length by omega) h3 m l hB6)
      have HS2 := Lib.hid (two_lines hown2 h3 (show k < ps.length by omega) l m hB6)
      have HSw := Lib.hid (show swp ps k = (ps.set k m).set (k + 1) l by unfold swp; rw [getD_of_get hl, getD_of_get hm'])
      have g2 : ((k : Int) + 1).toNat = k + 1 := by omega
      have g3 : IntKind.i64.wrap ((k : Int) + 1) = (k : Int) + 1 := IntWalk.i64_in _ (by omega)
      have g4 : (k : Int) + 1 < (ps.length : Int) := by omega
      have g5 : (k : Int) < (ps.length : Int) := by omega
      have g6 : (0 : Int) ≤ (k : Int) + 1 := by omega
      have r1 := Lib.hid (show w3.rangeAt pb (po + k * 4) [.int .i64 l.op, .int .i64 l.to, .int .i64 l.a, .int .i64 l.b] from fun j v hj => by
        match j, hj with
        | 0, hj => simp at hj; subst hj; exact c0
        | 1, hj => simp at hj; subst hj; exact c1'
        | 2, hj => simp at hj; subst hj; exact c2
        | 3, hj => simp at hj; subst hj; exact c3)
      have r2 := Lib.hid (show w3.rangeAt pb (po + (k + 1) * 4) [.int .i64 m.op, .int .i64 m.to, .int .i64 m.a, .int .i64 m.b] from fun j v hj => by
        match j, hj with
        | 0, hj => simp at hj; subst hj; exact d0
        | 1, hj => simp at hj; subst hj; exact d1
        | 2, hj => simp at hj; subst hj; exact d2
        | 3, hj => simp at hj; subst hj; exact d3)
      have HExI := Lib.hid (show ExI pb (po + k * 4) (po + (k + 1) * 4) g (k * 4) ((k + 1) * 4) l m w3.drew from ⟨fun j v hj => r1.out j v hj, fun j v hj => r2.out j v hj, fun j hj => HT1.out j hj, fun j hj => HT2.out j hj, ne1⟩)
      obtain ⟨qa, qb, qc, qd⟩ := lc_get hl
      obtain ⟨ra, rb, rc_, rd_⟩ := lc_get hm'
      have q0 := own_cell hown qa
      have q1 := own_cell hown qb
      have q2 := own_cell hown qc
      have q3 := own_cell hown qd
      have p0 := own_cell hown ra
      have p1 := own_cell hown rb
      have p2 := own_cell hown rc_
      have p3 := own_cell hown rd_
      have f0 := own_free hown (k * 4)
      have f1 := own_free hown (k * 4 + 1)
      have f2 := own_free hown (k * 4 + 2)
      have f3 := own_free hown (k * 4 + 3)
      have e0 := own_free hown ((k + 1) * 4)
      have e1 := own_free hown ((k + 1) * 4 + 1)
      have e2 := own_free hown ((k + 1) * 4 + 2)
      have e3 := own_free hown ((k + 1) * 4 + 3)
      clear hown hown2 hB5 hB3 hl hm' qa qb qc qd ra rb rc_ rd_
      go_wp2_with fail
      go_region
      all_goals go_wp2_with fail
      all_goals go_ret2
      all_goals (first | exact ⟨_, _, by rw [swp_length]; rfl, by rw [swp_length, HSw.out]; exact HS1.out.1.drew, HS1.out.2.drew⟩ | exact ⟨_, _, by rw [swp_length]; rfl, by rw [swp_length, HSw.out, List.set_comm _ _ (by omega)]; exact HS2.out.1.drew, HS2.out.2.drew⟩)
  · have HE := Lib.hid (show xcC ps n = epC ps n by unfold xcC; rw [if_neg hz])
    have HP := Lib.hid (xcP_no (ps := ps) (n := n) (by rw [HE.out]; exact hz))
    rw [HP.out, HE.out]
    generalize epC ps n = c at HV hz
    have hz1 : (c != 0) = true := by simpa using hz
    have hz2 : (c == 0) = false := by simpa using hz
    clear hz HE HP
    go_enter Try.func20, Try.ntmps20
    go_wp2_with fail
    refine HV.out.mono ?_
    rintro e w1 ⟨rfl, hB⟩
    go_wp2_with fail
    go_ret2
    exact givesLinesE_nil hB

end Go.Proofs.Ytmideaancmpafac
