/- Inverse of the document's side (patches): contract. -/
import Derived.Test.YtigaklppdlknkaaRd4
set_option linter.unusedVariables false
set_option linter.unusedSimpArgs false
namespace Go.Proofs.Ytigaklppdlknkaa
open Go.RowKit Tinker

set_option maxRecDepth 100000 in
set_option maxHeartbeats 2000000 in
theorem rInverse4_any (a g : Option Addr) (ca cg : Nat) (ps : List L) (xs : List E) (w : World) (hp : LinesAt w a ps) (hx : EditsAt w g xs) (hm : xs.length ≤ 1000) :
    Calls Try.prog 27 #[.slice a ps.length ca, .slice g xs.length cg] w (GivesEditsE (inR ps xs) (vpx ps xs 0) w) := by
  obtain ⟨i0, hi, hz0, hz1, hz2⟩ := info_parts info_edit
  have HV := Lib.hid (both_any a g ca cg ps xs w hp hx hm)
  by_cases hz : vpx ps xs 0 = 0
  · obtain ⟨h1, h2, h3⟩ := okX_at hz
    have H1 := Lib.hid h1
    have HE := Lib.hid (show inR ps xs = invL ps xs by unfold inR; rw [if_pos hz])
    rw [HE.out, hz]
    rw [hz] at HV
    clear hz h1 HE
    go_enter Try.func27, Try.ntmps27
    go_wp2_with fail
    refine HV.out.mono ?_
    rintro e w1 ⟨rfl, hB⟩
    have HB := Lib.hid hB
    clear hB
    go_wp2_with fail
    go_loopw [7, 8] (fun s7 s8 wr => ∃ k : Nat, k ≤ xs.length ∧ s8 = .int .i64 k ∧ wr.ownsRow w.heap.size 96 5 s7 k (ec (invL ps (xs.take k))) ∧ Below w.heap.size w wr) (fun _ s8 _ => xs.length - (intOf s8).toNat)
    case atStart => exact ⟨0, Nat.zero_le _, rfl, World.ownsRow_nil _ _ _ _, HB.out⟩
    case round =>
      clear HB
      obtain ⟨k, hk, rfl, hO, hB⟩ := hrel
      by_cases hlt : k < xs.length
      · obtain ⟨b, off, e, rfl, hlb, he, c0, c1, c2, c3, c4⟩ := (hx.below hB (Nat.le_refl _)).at_ hlt
        obtain ⟨a0, a1⟩ := H1.out e (mem_of_get he)
        obtain ⟨b2, off2, l, rfl, hlb2, hl, d0, d1, d2, d3⟩ := (hp.below hB (Nat.le_refl _)).at_ a1
        have a2 : e.at_ < (ps.length : Int) := by omega
        have HS := Lib.hid (inv_take he hl)
        obtain ⟨va, vc, rfl⟩ := own_slice hO
        have hal : Below wr.heap.size wr (wr.alloc (.cells (eV ⟨e.at_, l⟩) 96)).drew := ((Below.refl wr.heap.size wr).alloc (Nat.le_refl _) _).drew
        have hB2 := hB.trans (hal.mono hB.size)
        have hO2 := own_below hO hal (Nat.le_refl _)
        have hcl : ∀ j u, (ec [⟨e.at_, l⟩])[j]? = some u → (wr.alloc (.cells (eV ⟨e.at_, l⟩) 96)).drew.cell? ((⟨wr.heap.size, 0, none⟩ : Addr).add j) = some u := cells_newE wr ⟨e.at_, l⟩
        have HBB := Lib.hid hB2
        have HOO := Lib.hid hO2
        have HCL := Lib.hid hcl
        unfold eV at HBB HOO HCL
        clear he hl hO hB hx hp hal hB2 hO2 hcl
        go_wp2_with fail
        go_region_law (refine step_append_own rfl (.tmp 21) (.tmp 36) 33 rfl w.heap.size 96 i0 (.agg #[.int .i64 0, .int .i64 0, .int .i64 0, .int .i64 0, .int .i64 0]) 5 40 Try.underlying33 hi hz0 hz1 hz2 rfl (by decide) (.slice va k vc) k _ (by rfl) HOO.out ⟨wr.heap.size, 0, none⟩ 1 1 (ec [⟨e.at_, l⟩]) (by rfl) (ec_length _) HCL.out (ec_one _) (by unfold maxLen; omega) (by omega) HBB.out.size ?_; intro v3 w3 hown3 hgrow3; have HB3 := Lib.hid (HBB.out.grown hgrow3 HBB.out.size (fun q hq => (HOO.out.lt q hq).1)); have HO3 := Lib.hid (show w3.ownsRow w.heap.size 96 5 v3 (k + 1) (ec (invL ps (xs.take (k + 1)))) by rw [HS.out, ec_append]; exact hown3); clear hown3 hgrow3)
        all_goals go_wp2_with fail
        all_goals go_roundw
        all_goals first | exact ⟨k + 1, by omega, by go_num, HO3.out, HB3.out⟩ | (simp [intOf]; omega)
      · obtain rfl : k = xs.length := by omega
        rw [List.take_length] at hO
        have HO := Lib.hid hO
        have HB := Lib.hid hB
        clear hO hB
        go_wp2_with fail
        go_ret2
        obtain ⟨v1, v2, rfl⟩ := own_slice HO.out
        exact ⟨v1, v2, by rw [inv_len]; rfl, by rw [inv_len]; exact HO.out, HB.out⟩
  · have HE := Lib.hid (show inR ps xs = [] by unfold inR; rw [if_neg hz])
    rw [HE.out]
    generalize vpx ps xs 0 = c at HV hz ⊢
    have hz1 : (c != 0) = true := by simpa using hz
    have hz2 : (c == 0) = false := by simpa using hz
    clear hz HE
    go_enter Try.func27, Try.ntmps27
    go_wp2_with fail
    refine HV.out.mono ?_
    rintro e w1 ⟨rfl, hB⟩
    have HB := Lib.hid hB
    clear hB
    go_wp2_with fail
    go_ret2
    exact givesEditsE_nil HB.out

end Go.Proofs.Ytigaklppdlknkaa
