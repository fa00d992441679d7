/- Rename of the document's answers: contract. -/
import Derived.Test.YtmideaancmpafaaRenC
set_option linter.unusedVariables false
set_option linter.unusedSimpArgs false
namespace Go.Proofs.Ytmideaancmpafaa
open Go.RowKit Tinker

theorem list_set_same {α : Type} {l : List α} {i : Nat} {x : α} (h : l[i]? = some x) : l.set i x = l := by
  refine List.ext_getElem? fun j => ?_
  rw [List.getElem?_set]
  split
  · rename_i e; subst e
    have hi := (List.getElem?_eq_some_iff.1 h).1
    rw [if_pos hi, h]
  · rfl
theorem lc_set1 {qs : List L} {i : Nat} {l : L} (h : qs[i]? = some l) (x : Int) : lc (qs.set i ⟨l.op, x, l.a, l.b⟩) = (lc qs).set (i * 4 + 1) (.int .i64 x) := by
  obtain ⟨h0, h1, h2, h3⟩ := lc_get h
  have hi := (List.getElem?_eq_some_iff.1 h).1
  rw [lc_set _ hi]
  simp only
  rw [list_set_same h0, list_set_same (i := i * 4 + 2) (by rw [List.getElem?_set_ne (by omega)]; exact h2), list_set_same (i := i * 4 + 3) (by rw [List.getElem?_set_ne (by omega)]; exact h3)]
theorem lc_set2 {qs : List L} {i : Nat} {l : L} (h : qs[i]? = some l) (x : Int) : lc (qs.set i ⟨l.op, l.to, x, l.b⟩) = (lc qs).set (i * 4 + 2) (.int .i64 x) := by
  obtain ⟨h0, h1, h2, h3⟩ := lc_get h
  have hi := (List.getElem?_eq_some_iff.1 h).1
  rw [lc_set _ hi]
  simp only
  rw [list_set_same h0, list_set_same h1, list_set_same (i := i * 4 + 3) (by rw [List.getElem?_set_ne (by omega)]; exact h3)]
theorem lc_set3 {qs : List L} {i : Nat} {l : L} (h : qs[i]? = some l) (x : Int) : lc (qs.set i ⟨l.op, l.to, l.a, x⟩) = (lc qs).set (i * 4 + 3) (.int .i64 x) := by
  obtain ⟨h0, h1, h2, h3⟩ := lc_get h
  have hi := (List.getElem?_eq_some_iff.1 h).1
  rw [lc_set _ hi]
  simp only
  rw [list_set_same h0, list_set_same h1, list_set_same h2]

/-- The new program of the document's answer. -/
structure RqI (g c n : Nat) (qs : List L) (w W : World) : Prop where
  own : W.ownsRow w.heap.size 40 4 (.slice (some ⟨g, 0, none⟩) n c) n (lc qs)
  below : Below w.heap.size w W
theorem RqI.low {g c n : Nat} {qs : List L} {w W W' : World} (h : RqI g c n qs w W) (hb : Below W.heap.size W W') : RqI g c n qs w W' := ⟨own_below h.own hb (Nat.le_refl _), h.below.trans (hb.mono h.below.size)⟩
theorem RqI.put1 {g c n : Nat} {qs : List L} {w W : World} (h : RqI g c n qs w W) {i : Nat} {l : L} (hl : qs[i]? = some l) (x : Int) : RqI g c n (qs.set i ⟨l.op, x, l.a, l.b⟩) w (W.setCell ⟨g, i * 4 + 1, none⟩ (.int .i64 x)) :=
  ⟨by rw [lc_set1 hl]; exact own_setCell h.own _ _, h.below.setCell (p := ⟨g, _, none⟩) (own_base' h.own) _⟩
theorem RqI.put2 {g c n : Nat} {qs : List L} {w W : World} (h : RqI g c n qs w W) {i : Nat} {l : L} (hl : qs[i]? = some l) (x : Int) : RqI g c n (qs.set i ⟨l.op, l.to, x, l.b⟩) w (W.setCell ⟨g, i * 4 + 2, none⟩ (.int .i64 x)) :=
  ⟨by rw [lc_set2 hl]; exact own_setCell h.own _ _, h.below.setCell (p := ⟨g, _, none⟩) (own_base' h.own) _⟩
theorem RqI.put3 {g c n : Nat} {qs : List L} {w W : World} (h : RqI g c n qs w W) {i : Nat} {l : L} (hl : qs[i]? = some l) (x : Int) : RqI g c n (qs.set i ⟨l.op, l.to, l.a, x⟩) w (W.setCell ⟨g, i * 4 + 3, none⟩ (.int .i64 x)) :=
  ⟨by rw [lc_set3 hl]; exact own_setCell h.own _ _, h.below.setCell (p := ⟨g, _, none⟩) (own_base' h.own) _⟩
def ren1 (nm : List Int) (l : L) : L := ⟨l.op, if Tinker.wr l then nm.getD l.to.toNat 0 else l.to, l.a, l.b⟩
def ren2 (nm : List Int) (l : L) : L := ⟨l.op, (ren1 nm l).to, if 2 ≤ l.op then nm.getD l.a.toNat 0 else l.a, l.b⟩
theorem ren3 (nm : List Int) (l : L) : renL nm l = ⟨l.op, (ren2 nm l).to, (ren2 nm l).a, if 3 ≤ l.op then nm.getD l.b.toNat 0 else l.b⟩ := rfl

set_option maxRecDepth 100000 in
set_option maxHeartbeats 4000000 in
theorem rRename_any (a b : Option Addr) (ca cb : Nat) (ps : List L) (nm : List Int) (w : World) (hp : LinesAt w a ps) (hc : a = none → ca = 0) (hn : IntsAt w b nm) (hm : ps.length ≤ 1000) (hm2 : nm.length ≤ 1000) :
    Calls Try.prog 52 #[.slice a ps.length ca, .slice b nm.length cb] w (GivesLinesE (rnP ps nm) (rnC ps nm) w) := by
  have HV := Lib.hid (rValidate_any a ca ps w hp)
  have HN := Lib.hid (fun w hn => rIsOrder_any b cb nm w hn hm2)
  by_cases h1 : vp ps = 0
  · cases h2 : isOrd nm
    · have HE := Lib.hid (show rnC ps nm = 1 by unfold rnC fe nmC; rw [if_pos h1, h2]; rfl)
      have HP := Lib.hid (rnP_no (ps := ps) (nm := nm) (by rw [HE.out]; decide))
      rw [HP.out, HE.out]
      rw [h1] at HV
      rw [h2] at HN
      clear h1 h2
      go_enter Try.func52, Try.ntmps52
      go_wp2_with fail
      refine HV.out.mono ?_
      rintro e w1 ⟨rfl, hB1⟩
      go_wp2_with fail
      refine (HN.out _ (hn.below hB1 (Nat.le_refl _))).mono ?_
      rintro e w2 ⟨rfl, hB2⟩
      go_wp2_with fail
      go_ret2
      exact givesLinesE_nil (hB1.trans (hB2.mono hB1.size))
    · have HE := Lib.hid (show rnC ps nm = 0 by unfold rnC fe nmC; rw [if_pos h1, h2]; rfl)
      have HP := Lib.hid (rnP_yes HE.out)
      have h8 := (vp_ok h1).1
      have hli := (vp_ok h1).2
      have HN4 := Lib.hid (isOrd_len h2)
      have HC := Lib.hid (fun w hp => copy_any a ca ps w hp hc hm)
      have HAll := Lib.hid (renTo_all nm ps)
      rw [HP.out, HE.out]
      rw [h1] at HV
      rw [h2] at HN
      clear h1 h2
      go_enter Try.func52, Try.ntmps52
      go_wp2_with fail
      refine HV.out.mono ?_
      rintro e w1 ⟨rfl, hB1⟩
      go_wp2_with fail
      refine (HN.out _ (hn.below hB1 (Nat.le_refl _))).mono ?_
      rintro e w2 ⟨rfl, hB2⟩
      have hB := hB1.trans (hB2.mono hB1.size)
      clear hB1 hB2
      go_wp2_with fail
      refine (HC.out _ (hp.below hB (Nat.le_refl _))).mono ?_
      intro e w6 hG
      obtain ⟨a6, c6, rfl, hown, hB6⟩ := hG
      have hB7 := hB.trans (hB6.mono hB.size)
      have hpos : ps = [] ∨ 0 < ps.length := by cases ps <;> simp
      rcases hpos with hnil | hpos
      · have hl0 : ps.length = 0 := by rw [hnil]; rfl
        have hlt : ¬ (0 : Int) < (ps.length : Int) := by omega
        have HO := Lib.hid (own_mono hown hB.size)
        have HM := Lib.hid (show ps.map (renL nm) = ps by rw [hnil]; rfl)
        clear hown hnil hl0
        go_wp2_with fail
        go_loop [8] (fun s8 => s8 = .int .i64 0) (fun s8 => 0)
        case atStart => exact rfl
        case round =>
          obtain rfl := hrel
          go_wp2_with fail
          go_ret2
          rw [HM.out]
          exact ⟨a6, c6, rfl, HO.out, hB7⟩
      · obtain ⟨g, rfl⟩ := own_form hown hpos
        have hI0 : RqI g c6 ps.length (renTo nm ps 0) w w6 := ⟨own_mono hown hB.size, hB7⟩
        have hgw : w.heap.size ≤ g := own_base' hI0.own
        clear hown hB6 hB7 hB
        go_wp2_with fail
        go_loopw [8] (fun s8 wr => ∃ k : Nat, k ≤ ps.length ∧ s8 = .int .i64 k ∧ RqI g c6 ps.length (renTo nm ps k) w wr) (fun s8 _ => ps.length - (intOf s8).toNat)
        case atStart => exact ⟨0, Nat.zero_le _, rfl, hI0⟩
        case round =>
          clear hI0
          obtain ⟨k, hk, rfl, hI⟩ := hrel
          by_cases hlt : k < ps.length
          · obtain ⟨pb, po, l, rfl, hpb, hl, p0, p1, p2, p3⟩ := hp.at_ hlt
            have x0 := (hI.below.cell (p := ⟨pb, _, none⟩) hpb).trans p0
            have x1 := (hI.below.cell (p := ⟨pb, _, none⟩) hpb).trans p1
            have x2 := (hI.below.cell (p := ⟨pb, _, none⟩) hpb).trans p2
            have x3 := (hI.below.cell (p := ⟨pb, _, none⟩) hpb).trans p3
            have hln := hli l (mem_of_get hl)
            have HNx := Lib.hid (renTo_next (nm := nm) hl)
            have HAt := Lib.hid (renTo_at (nm := nm) hl)
            have HP := Lib.hid (show w.cell? ⟨pb, po + k * 4, none⟩ = some (.int .i64 l.op) ∧ w.cell? ⟨pb, po + k * 4 + 1, none⟩ = some (.int .i64 l.to) ∧ w.cell? ⟨pb, po + k * 4 + 2, none⟩ = some (.int .i64 l.a) ∧ w.cell? ⟨pb, po + k * 4 + 3, none⟩ = some (.int .i64 l.b) from ⟨p0, p1, p2, p3⟩)
            have hrl := renTo_length nm ps k
            clear hl p0 p1 p2 p3
            go_wp2_with fail
            refine (rWrites_any l _).mono ?_
            rintro e w7 ⟨rfl, hB⟩
            replace hI := hI.low hB
            clear hB x0 x1 x2 x3
            have ne1 : ¬ pb = g := by omega
            have ne2 : ¬ g = pb := by omega
            have k0 : (0 : Int) ≤ (k : Int) := by omega
            have k1 : (k : Int) < (ps.length : Int) := by omega
            go_upto_if 29 with fail
            go_cut [] (fun wx => RqI g c6 ps.length ((renTo nm ps k).set k (ren1 nm l)) w wx)
            case first =>
              cases hw : Tinker.wr l
              · have HE1 := Lib.hid (show (renTo nm ps k).set k (ren1 nm l) = renTo nm ps k by rw [show ren1 nm l = l by unfold ren1; rw [hw]; rfl]; exact list_set_same HAt.out)
                have HI := Lib.hid hI
                clear hI hw
                go_wp2_with fail
                go_meet
                rw [HE1.out]
                exact HI.out
              · obtain ⟨t0, t3⟩ := wr_to hln hw
                have t4 : l.to < 4 := by omega
                obtain ⟨nb, no_, x, rfl, hnb, hx, y0⟩ := (hn.below hI.below (Nat.le_refl _)).at_ (show l.to.toNat < nm.length by rw [HN4.out]; omega)
                have nl : l.to < (nm.length : Int) := by rw [HN4.out]; omega
                have HE1 := Lib.hid (show ren1 nm l = ⟨l.op, x, l.a, l.b⟩ by unfold ren1; rw [hw, getD_of_get hx]; rfl)
                obtain ⟨q0, q1, q2, q3⟩ := lc_get HAt.out
                have z1 := own_cell hI.own q1
                have f1 := own_free hI.own (k * 4 + 1)
                have x0 := (hI.below.cell (p := ⟨pb, _, none⟩) hpb).trans HP.out.1
                have x1 := (hI.below.cell (p := ⟨pb, _, none⟩) hpb).trans HP.out.2.1
                have x2 := (hI.below.cell (p := ⟨pb, _, none⟩) hpb).trans HP.out.2.2.1
                have x3 := (hI.below.cell (p := ⟨pb, _, none⟩) hpb).trans HP.out.2.2.2
                have HI := Lib.hid hI
                clear hI hw hx q0 q1 q2 q3
                go_wp2_with fail
                go_meet
                rw [HE1.out]
                exact HI.out.put1 HAt.out x
            case rest =>
              clear hI
              have hI := hcut
              have HA1 := Lib.hid (show ((renTo nm ps k).set k (ren1 nm l))[k]? = some (ren1 nm l) from List.getElem?_set_self (by omega))
              have x0 := (hI.below.cell (p := ⟨pb, _, none⟩) hpb).trans HP.out.1
              have x1 := (hI.below.cell (p := ⟨pb, _, none⟩) hpb).trans HP.out.2.1
              have x2 := (hI.below.cell (p := ⟨pb, _, none⟩) hpb).trans HP.out.2.2.1
              have x3 := (hI.below.cell (p := ⟨pb, _, none⟩) hpb).trans HP.out.2.2.2
              go_upto_if 47 with fail
              clear x0 x1 x2 x3
              go_cut [] (fun wx => RqI g c6 ps.length ((renTo nm ps k).set k (ren2 nm l)) w wx)
              case first =>
                by_cases h2 : 2 ≤ l.op
                · obtain ⟨t0, t3⟩ := isLn_a hln h2
                  have t4 : l.a < 4 := by omega
                  have h2b : decide (2 ≤ l.op) = true := by simpa using h2
                  obtain ⟨nb, no_, x, rfl, hnb, hx, y0⟩ := (hn.below hI.below (Nat.le_refl _)).at_ (show l.a.toNat < nm.length by rw [HN4.out]; omega)
                  have nl : l.a < (nm.length : Int) := by rw [HN4.out]; omega
                  have HE1 := Lib.hid (show ren2 nm l = ⟨(ren1 nm l).op, (ren1 nm l).to, x, (ren1 nm l).b⟩ by unfold ren2; rw [if_pos h2, getD_of_get hx]; rfl)
                  obtain ⟨q0, q1, q2, q3⟩ := lc_get HA1.out
                  have z1 := own_cell hI.own q2
                  have f1 := own_free hI.own (k * 4 + 2)
                  have x0 := (hI.below.cell (p := ⟨pb, _, none⟩) hpb).trans HP.out.1
                  have x1 := (hI.below.cell (p := ⟨pb, _, none⟩) hpb).trans HP.out.2.1
                  have x2 := (hI.below.cell (p := ⟨pb, _, none⟩) hpb).trans HP.out.2.2.1
                  have x3 := (hI.below.cell (p := ⟨pb, _, none⟩) hpb).trans HP.out.2.2.2
                  have HI := Lib.hid (hI.put2 HA1.out x)
                  clear hI hx q0 q1 q2 q3 hcut
                  go_wp2_with fail
                  go_meet
                  rw [HE1.out]
                  have := HI.out
                  rw [List.set_set] at this
                  exact this
                · have h2b : decide (2 ≤ l.op) = false := by simpa using h2
                  have HE1 := Lib.hid (show ren2 nm l = ren1 nm l by unfold ren2; rw [if_neg h2]; rfl)
                  have HI := Lib.hid hI
                  clear hI hcut
                  go_wp2_with fail
                  go_meet
                  rw [HE1.out]
                  exact HI.out
              case rest =>
                clear hI HA1
                have hI := hcut
                clear hcut
                have HA2 := Lib.hid (show ((renTo nm ps k).set k (ren2 nm l))[k]? = some (ren2 nm l) from List.getElem?_set_self (by omega))
                by_cases h3 : 3 ≤ l.op
                · obtain ⟨t0, t3⟩ := isLn_b hln h3
                  have t4 : l.b < 4 := by omega
                  have h3b : decide (3 ≤ l.op) = true := by simpa using h3
                  obtain ⟨nb, no_, x, rfl, hnb, hx, y0⟩ := (hn.below hI.below (Nat.le_refl _)).at_ (show l.b.toNat < nm.length by rw [HN4.out]; omega)
                  have nl : l.b < (nm.length : Int) := by rw [HN4.out]; omega
                  have HE1 := Lib.hid (show renL nm l = ⟨(ren2 nm l).op, (ren2 nm l).to, (ren2 nm l).a, x⟩ by rw [ren3, if_pos h3, getD_of_get hx]; rfl)
                  obtain ⟨q0, q1, q2, q3⟩ := lc_get HA2.out
                  have z1 := own_cell hI.own q3
                  have f1 := own_free hI.own (k * 4 + 3)
                  have x0 := (hI.below.cell (p := ⟨pb, _, none⟩) hpb).trans HP.out.1
                  have x1 := (hI.below.cell (p := ⟨pb, _, none⟩) hpb).trans HP.out.2.1
                  have x2 := (hI.below.cell (p := ⟨pb, _, none⟩) hpb).trans HP.out.2.2.1
                  have x3 := (hI.below.cell (p := ⟨pb, _, none⟩) hpb).trans HP.out.2.2.2
                  have HI := Lib.hid (hI.put3 HA2.out x)
                  clear hI hx q0 q1 q2 q3
                  go_wp2_with fail
                  go_roundw
                  case rel => exact ⟨k + 1, by omega, by go_num, by rw [HNx.out, HE1.out]; have := HI.out; rw [List.set_set] at this; exact this⟩
                  case measure => simp [intOf]; omega
                · have h3b : decide (3 ≤ l.op) = false := by simpa using h3
                  have HE1 := Lib.hid (show renL nm l = ren2 nm l by rw [ren3, if_neg h3]; rfl)
                  have x0 := (hI.below.cell (p := ⟨pb, _, none⟩) hpb).trans HP.out.1
                  have x1 := (hI.below.cell (p := ⟨pb, _, none⟩) hpb).trans HP.out.2.1
                  have x2 := (hI.below.cell (p := ⟨pb, _, none⟩) hpb).trans HP.out.2.2.1
                  have x3 := (hI.below.cell (p := ⟨pb, _, none⟩) hpb).trans HP.out.2.2.2
                  have HI := Lib.hid hI
                  clear hI
                  go_wp2_with fail
                  go_roundw
                  case rel => exact ⟨k + 1, by omega, by go_num, by rw [HNx.out, HE1.out]; exact HI.out⟩
                  case measure => simp [intOf]; omega
          · have hke : k = ps.length := by omega
            have HI := Lib.hid (show RqI g c6 ps.length (ps.map (renL nm)) w wr by rw [hke, HAll.out] at hI; exact hI)
            clear hI hke
            go_wp2_with fail
            go_ret2
            exact ⟨_, _, by rw [List.length_map]; rfl, by rw [List.length_map]; exact HI.out.own, HI.out.below⟩
  · have HE := Lib.hid (show rnC ps nm = vp ps by unfold rnC fe; rw [if_neg h1])
    have HP := Lib.hid (rnP_no (ps := ps) (nm := nm) (by rw [HE.out]; exact h1))
    rw [HP.out, HE.out]
    generalize vp ps = c at HV h1
    have hz1 : (c != 0) = true := by simpa using h1
    have hz2 : (c == 0) = false := by simpa using h1
    clear h1 HE HP
    go_enter Try.func52, Try.ntmps52
    go_wp2_with fail
    refine HV.out.mono ?_
    rintro e w1 ⟨rfl, hB1⟩
    go_wp2_with fail
    go_ret2
    exact givesLinesE_nil hB1

end Go.Proofs.Ytmideaancmpafaa
