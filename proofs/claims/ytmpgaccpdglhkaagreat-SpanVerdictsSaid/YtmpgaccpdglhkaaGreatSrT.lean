/- boxed, after, After, Before of the document: contracts. -/
import Derived.Test.YtmpgaccpdglhkaaGreatSrS
import Derived.Test.YtmpgaccpdglhkaaGreatSpN
import Derived.Test.YtmpgaccpdglhkaaGreatRefB
set_option linter.unusedVariables false
set_option linter.unusedSimpArgs false
namespace Go.Proofs.YtmpgaccpdglhkaaGreat
open Go.RowKit Tinker

theorem hullF_hO {b0 : List Rg} {bs : List (List Rg)} : hO (b0 :: bs) = some (hullF b0 bs) := rfl
/-- A line's boxes, as the document reads them. -/
theorem dL_row {ps : List L} {b y : List Rg} {k : Nat} (hv : vp ps = 0) (hb : OkB b) (h : (spL ps b).getD k none = some y) :
    ∃ b0 bs, (dL ps b).getD k [] = b0 :: bs ∧ hullF b0 bs = y ∧ b0.length = 4 ∧ (∀ z ∈ bs, z.length = 4) ∧ bs.length ≤ 100 := by
  obtain ⟨h8, hvl⟩ := vp_ok hv
  have hd := okD_at hvl hb ps.length
  have h1 := dL_get ps b k
  rw [h] at h1
  have ok := hd.ok k
  have few := hd.few k
  have e : (dAt ps b ps.length).getD k [] = (dL ps b).getD k [] := rfl
  rw [e] at ok few
  cases hr : (dL ps b).getD k [] with
  | nil => rw [hr] at h1; simp [hO] at h1
  | cons b0 bs =>
    rw [hr] at h1 ok few
    simp only [hO, Option.some.injEq] at h1
    rw [List.length_cons] at few
    exact ⟨b0, bs, rfl, h1, (ok b0 (by simp)).l4, fun z hz => (ok z (by simp [hz])).l4, by omega⟩
theorem dL_none {ps : List L} {b : List Rg} {k : Nat} (h : (spL ps b).getD k none = none) : (dL ps b).getD k [] = [] := by
  have h1 := dL_get ps b k
  rw [h] at h1
  cases hr : (dL ps b).getD k [] with
  | nil => rfl
  | cons b0 bs => rw [hr] at h1; simp [hO] at h1
theorem dL_len (ps : List L) (b : List Rg) : (dL ps b).length = ps.length + 1 := dAt_len ps b ps.length
/-- What comes to line k, of the boxes in memory. -/
theorem DocI.hull {w : World} {M : Nat} {xs : List Value} {W : World} {ps : List L} {b y : List Rg} {k : Nat} (h : DocI w M (dL ps b) xs W) (hk : k ≤ ps.length) (hv : vp ps = 0) (hb : OkB b) (hy : (spL ps b).getD k none = some y) :
    ∃ n a c, W.cell? ⟨M, k, none⟩ = some (.slice a (n + 1) c) ∧ ∀ W', Below W.heap.size W W' → Calls Tryz.prog 55 #[.slice a (n + 1) c] W' (GivesRg y W') := by
  obtain ⟨b0, bs, h1, h2, h3, h4, h5⟩ := dL_row hv hb hy
  obtain ⟨n, a, c, ys, hn, -, hc, -, -, hbx⟩ := h.at_ (j := k) (by rw [dL_len]; omega)
  rw [h1, List.length_cons] at hn
  subst hn
  rw [h1] at hbx
  refine ⟨bs.length, a, c, hc, fun W' hB => ?_⟩
  have := rhull_any a c b0 bs W' (hbx.below hB (Nat.le_refl _)) h3 h4 h5
  rwa [h2] at this
theorem DocI.bare {w : World} {M : Nat} {xs : List Value} {W : World} {ps : List L} {b : List Rg} {k : Nat} (h : DocI w M (dL ps b) xs W) (hk : k ≤ ps.length) (hy : (spL ps b).getD k none = none) :
    ∃ a c, W.cell? ⟨M, k, none⟩ = some (.slice a 0 c) := by
  obtain ⟨n, a, c, ys, hn, -, hc, -, -, -⟩ := h.at_ (j := k) (by rw [dL_len]; omega)
  rw [dL_none hy] at hn
  subst hn
  exact ⟨a, c, hc⟩

set_option maxRecDepth 100000 in
set_option maxHeartbeats 2000000 in
theorem rafter_any (a a2 : Option Addr) (ca c2 : Nat) (ps : List L) (b : List Rg) (w : World) (hp : LinesAt w a ps) (hr : RangesAt w a2 b) (hv : vp ps = 0) (hb : OkB b) :
    Calls Tryz.prog 38 #[.slice a ps.length ca, .slice a2 b.length c2] w (GivesRg (endB ps b) w) := by
  have HS := Lib.hid (rspans_any a a2 ca c2 ps b w hp hr hv hb)
  have HE := Lib.hid (fun M xs W (h : DocI w M (dL ps b) xs W) => h.hull (Nat.le_refl _) hv hb (end_some (vp_ok hv).2 hb))
  have HL := Lib.hid (dL_len ps b)
  have hlt : (ps.length : Int) < (ps.length : Int) + 1 := by omega
  generalize endB ps b = y at *
  generalize dL ps b = st at *
  clear hp hr hv hb
  go_enter Tryz.func38, Tryz.ntmps38
  go_wp2_with fail
  refine HS.out.mono ?_
  rintro e w1 ⟨M, xs, rfl, hD⟩
  obtain ⟨n, a', c', hc, hh⟩ := HE.out M xs w1 hD
  rw [HL.out]
  have HH := Lib.hid hh
  have HB := Lib.hid hD.below
  clear hh hD
  go_wp2_with fail
  refine (HH.out _ (Below.refl _ _)).mono ?_
  intro e w2 hG
  obtain ⟨a3, c3, rfl, hown, hB⟩ := hG.wide HB.out
  have HO := Lib.hid hown
  clear hown hG
  go_wp2_with fail
  go_ret
  exact ⟨a3, c3, rfl, HO.out, hB⟩

end Go.Proofs.YtmpgaccpdglhkaaGreat
