/- Rank of package check: contract. -/
import Derived.Test.YtndmjenfgggfbaaRkC
set_option linter.unusedVariables false
set_option linter.unusedSimpArgs false
namespace Go.Proofs.Ytndmjenfgggfbaa
open Go.RowKit Tinker

/-- What Rank answers. -/
def GivesRk (ps : List L) (ts : List T) (w : World) (e : Ending) (w' : World) : Prop :=
  ∃ zs a c, IsRank ps ts zs ∧ e = .returned (.tuple #[.slice a zs.length c, .int .i64 (vpt ps ts)]) ∧ IntsAt w' a zs ∧ Below w.heap.size w w'

/-- What Rank of package check answers: in a slice that holds it. -/
def GivesRkC (ps : List L) (ts : List T) (w : World) (e : Ending) (w' : World) : Prop :=
  ∃ zs a c, zs.length ≤ c ∧ IsRank ps ts zs ∧ e = .returned (.tuple #[.slice a zs.length c, .int .i64 (vpt ps ts)]) ∧ IntsAt w' a zs ∧ Below w.heap.size w w'

theorem upTo_set {n k : Nat} (hk : k < n) : (((List.range k ++ List.replicate (n - k) 0).map Int.ofNat).set k (k : Int)) = (List.range (k + 1) ++ List.replicate (n - (k + 1)) 0).map Int.ofNat := by
  have e : n - k = (n - (k + 1)) + 1 := by omega
  rw [e, List.replicate_succ, List.range_succ]
  simp [List.set_append]

set_option maxRecDepth 100000 in
set_option maxHeartbeats 4000000 in
theorem rank_any (a g : Option Addr) (ca cap : Nat) (ps : List L) (ts : List T) (w : World) (hp : LinesAt w a ps) (hts : TestsAt w g ts) (hm : ts.length ≤ 1000) (hml : ∀ t ∈ ts, t.inn.length ≤ 1000) :
    Calls Try.prog 40 #[.slice a ps.length ca, .slice g ts.length cap] w (GivesRkC ps ts w) := by
  have HV := Lib.hid (fun w hp hts => validateTestsP_any a g ca cap ps ts w hp hts hm hml)
  unfold GivesRkC
  by_cases hz : vpt ps ts = 0
  · obtain ⟨h1, h2⟩ := vpt_ok hz
    have h8 := (vp_ok h1).1
    have t8 := (vts_ok h2).1
    have HS := Lib.hid (fun w hp hts => scores_A a g ca cap ps ts w hp hts h1 h2)
    have hok : ∀ q ∈ scL ps ts, okQ q := fun q hq => by
      obtain ⟨j, hj, e⟩ := List.mem_iff_getElem.1 hq
      have hj' : j < ps.length := by rw [scL_length] at hj; exact hj
      have e2 := scL_get (ts := ts) hj'
      rw [List.getElem?_eq_getElem hj, e] at e2
      injection e2 with e2
      rw [e2]; exact scQ_ok hj' t8
    have HSS := Lib.hid (fun (P D : Nat) (g : Option Addr) (w : World) hP hq hD W hI => sortStable_any P D g ps.length ps.length (scL ps ts) w hP hq hok (scL_pos ps ts) (scL_length ps ts) h8 hD W hI)
    have HRK := Lib.hid (fun (ns : List Nat) (h : Ranked (scL ps ts) ps.length ns) => show IsRank ps ts (ns.map Int.ofNat) ∧ (ns.map Int.ofNat).length = ps.length from ⟨by unfold IsRank; rw [if_pos hz]; exact ⟨ns, rfl, h⟩, by rw [List.length_map, ranked_length h]⟩)
    have HSL := Lib.hid (scL_length ps ts)
    rw [hz]
    rw [hz] at HV
    have hmk := mkInts ps.length h8
    generalize scL ps ts = qs at HS HSS HRK HSL
    clear hz h1 h2 hok
    go_enter Try.func40, Try.ntmps40
    go_wp2_with fail
    refine (HV.out _ hp hts).mono ?_
    rintro e w1 ⟨rfl, hB⟩
    go_wp2_with fail
    refine (HS.out _ (hp.below hB (Nat.le_refl _)) (hts.below hB (Nat.le_refl _))).mono ?_
    rintro e w2 ⟨Q, rfl, hq, hB2⟩
    have HB := Lib.hid (hB.trans (hB2.mono hB.size))
    have HQ := Lib.hid hq
    clear hB hB2 hq
    go_wp2_with fail
    have hP : (w2.alloc (.cells #[.slice (some ⟨Q, 0, none⟩) ps.length ps.length] 44)).heap[w2.heap.size]? = some (.cells #[.slice (some ⟨Q, 0, none⟩) ps.length ps.length] 44 (0, 0)) := hp_new rfl
    have hQ := qAt_blk (hp_alloc (o' := .cells #[.slice (some ⟨Q, 0, none⟩) ps.length ps.length] 44) HQ.out)
    have hB3 := HB.out.alloc (o := .cells #[.slice (some ⟨Q, 0, none⟩) ps.length ps.length] 44) HB.out.size
    have hsz : (w2.alloc (.cells #[.slice (some ⟨Q, 0, none⟩) ps.length ps.length] 44)).heap.size = w2.heap.size + 1 := by simp
    generalize w2.alloc (.cells #[.slice (some ⟨Q, 0, none⟩) ps.length ps.length] 44) = w3 at hP hQ hB3 hsz ⊢
    have hI : SrtI (w2.heap.size + 1) ((List.replicate ps.length 0).map Int.ofNat) w3 (w3.alloc (.cells (iv (List.replicate ps.length 0)) 3)) := ⟨hp_new (by rw [hsz]) |> fun h => by simpa using h, (Below.refl _ _).alloc (Nat.le_refl _) _⟩
    generalize hPP : w2.heap.size = P at hP hsz hI ⊢
    generalize w3.alloc (.cells (iv (List.replicate ps.length 0)) 3) = w4 at hI ⊢
    have HI := Lib.hid hI
    have HP3 := Lib.hid hP
    have HQ3 := Lib.hid hQ
    have HB3 := Lib.hid hB3
    clear hI hP hQ hB3 hmk HQ HB hPP
    go_loopw [24] (fun s24 wr => ∃ k : Nat, k ≤ ps.length ∧ s24 = .int .i64 k ∧ SrtI (P + 1) ((List.range k ++ List.replicate (ps.length - k) 0).map Int.ofNat) w3 wr) (fun s24 _ => ps.length - (intOf s24).toNat)
    case atStart => exact ⟨0, Nat.zero_le _, rfl, by simpa using HI.out⟩
    case round =>
      clear HI
      obtain ⟨k, hk, rfl, hI⟩ := hrel
      have HI := Lib.hid hI
      clear hI
      by_cases hlt : k < ps.length
      · have f0 := hp_free HI.out.bd k
        obtain ⟨v0, hv0⟩ : ∃ v, ((List.range k ++ List.replicate (ps.length - k) 0).map Int.ofNat)[k]? = some v := get_of_lt (by simp; omega)
        have c0 := HI.out.cell hv0
        clear hv0
        go_wp2_with fail
        go_roundw
        case rel => exact ⟨k + 1, by omega, by go_num, by rw [← upTo_set hlt]; exact HI.out.put (by omega) k (k : Int)⟩
        case measure => first | (simp [intOf]; done) | (simp [intOf]; omega)
      · obtain rfl : k = ps.length := by omega
        have hI2 : SrtI (P + 1) ((List.range ps.length).map Int.ofNat) w3 wr := by simpa using HI.out
        have HI2 := Lib.hid hI2
        clear hI2 HI
        go_wp2_with fail
        refine (HSS.out P (P + 1) (some ⟨Q, 0, none⟩) w3 (by rw [HSL.out]; exact HP3.out) HQ3.out (by omega) _ HI2.out).mono ?_
        rintro e w5 ⟨rfl, ns, hR, hS⟩
        obtain ⟨hrk, hln⟩ := HRK.out ns hR
        have HX := Lib.hid hrk
        have HS5 := Lib.hid hS
        clear hR hS hrk
        go_wp2_with fail
        go_ret2
        exact ⟨ns.map Int.ofNat, some ⟨P + 1, 0, none⟩, ps.length, by rw [hln]; exact Nat.le_refl _, HX.out, by rw [hln]; rfl, .inr ⟨P + 1, 0, rfl, hp_lt HS5.out.bd, fun j n hj => by rw [Nat.zero_add]; exact HS5.out.cell hj⟩, HB3.out.trans (HS5.out.below.mono HB3.out.size)⟩
  · generalize hc : vpt ps ts = c at HV hz
    have HRK := Lib.hid (show IsRank ps ts [] by unfold IsRank; rw [if_neg (by rw [hc]; exact hz)])
    have hz1 : (c != 0) = true := by simpa using hz
    have hz2 : (c == 0) = false := by simpa using hz
    clear hz hc
    go_enter Try.func40, Try.ntmps40
    go_wp2_with fail
    refine (HV.out _ hp hts).mono ?_
    rintro e w1 ⟨rfl, hB⟩
    go_wp2_with fail
    go_ret2
    exact ⟨[], none, 0, Nat.le_refl _, HRK.out, rfl, .inl rfl, hB⟩

end Go.Proofs.Ytndmjenfgggfbaa
