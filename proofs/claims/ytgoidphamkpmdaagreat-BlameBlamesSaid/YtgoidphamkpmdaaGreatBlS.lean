/- Slices and Diagnoses of both: contracts. -/
import Derived.Test.YtgoidphamkpmdaaGreatBlI
import Derived.Test.YtgoidphamkpmdaaGreatCkb
import Derived.Test.YtgoidphamkpmdaaGreatKnownT
import Derived.Test.YtgoidphamkpmdaaGreatRSl
set_option linter.unusedVariables false
set_option linter.unusedSimpArgs false
namespace Go.Proofs.YtgoidphamkpmdaaGreat
open Go.RowKit Tinker

/-- The slice of a test. -/
def slT (ps : List L) (t : T) : List Int := slA ps t.inn t.out
theorem isSetB_of_pair : ∀ {l : List Int}, l.Pairwise (· < ·) → isSetB l = true
  | [], _ => rfl
  | [x], _ => rfl
  | x :: y :: r, h => by
    obtain ⟨h1, h2⟩ := List.pairwise_cons.1 h
    rw [isSetB, isSetB_of_pair h2, decide_eq_true (h1 y (by simp))]
    rfl
theorem plc_set {l : List Bool} (h : l.length ≤ 8) : setB (plc l) = true := by
  unfold setB plc plcTo
  rw [Bool.and_eq_true]
  constructor
  · refine isSetB_of_pair ?_
    rw [List.pairwise_map]
    exact (List.pairwise_lt_range.sublist List.filter_sublist).imp fun h => by simpa using h
  · unfold allBtw
    rw [List.all_eq_true]
    intro x hx
    simp only [List.mem_map, List.mem_filter, List.mem_range] at hx
    obtain ⟨n, ⟨hn, _⟩, rfl⟩ := hx
    exact btw_true.2 (by simp; omega)
theorem slA_set (ps : List L) (s : List Int) (r : Int) : setB (slA ps s r) = true := by
  unfold slA
  split
  · refine plc_set ?_
    have e : (sliceB ps (doneL (runS ps s)) r.toNat).length = 8 := by unfold sliceB; rw [(foldSl_length _ _ _).2]; simp [sl0]
    omega
  · rfl
theorem slT_len (ps : List L) (t : T) : (slT ps t).length ≤ 8 := setB_len (slA_set _ _ _)

set_option maxRecDepth 100000 in
set_option maxHeartbeats 2000000 in
theorem slicesOf_any (a g : Option Addr) (ca cap : Nat) (ps : List L) (ts : List T) (w : World) (hp : LinesAt w a ps) (hts : TestsAt w g ts) (hm : ts.length ≤ 1000) (hml : ∀ t ∈ ts, t.inn.length ≤ 1000) :
    Calls Tryz.prog 33 #[.slice a ps.length ca, .slice g ts.length cap] w (GivesRowsB ((fT ps ts).map (slT ps)) w) := by
  obtain ⟨j0, hjj, jz0, jz1, jz2⟩ := info_parts info_ints
  have HF := Lib.hid (failingT_any a g ca cap ps ts w hp hts hm hml)
  have HML := Lib.hid (fun t h => hml t (fT_mem (ps := ps) (ts := ts) (t := t) h))
  have hfl : (fT ps ts).length ≤ 1000 := by have := pL_len false ps ts; unfold fT; rw [List.length_map]; omega
  have HP := Lib.hid hp
  generalize fT ps ts = ws at HF HML hfl ⊢
  clear hp hts hml
  go_enter Tryz.func33, Tryz.ntmps33
  go_wp2_with fail
  refine HF.out.mono ?_
  rintro e w1 ⟨g1, c1, rfl, h1, hB1⟩
  have HT := Lib.hid h1
  have HB1 := Lib.hid hB1
  clear h1 hB1
  go_wp2_with fail
  go_loopw [5, 14] (fun s5 s14 wr => ∃ (k : Nat) (xs : List Value), k ≤ ws.length ∧ s14 = .int .i64 k ∧ RowsI w1 s5 ((ws.take k).map (slT ps)) xs wr) (fun _ s14 _ => ws.length - (intOf s14).toNat)
  case atStart => exact ⟨0, [], Nat.zero_le _, rfl, RowsI.nil (Below.refl _ _)⟩
  case round =>
    obtain ⟨k, xs, hk, rfl, hI⟩ := hrel
    by_cases hlk : k < ws.length
    · obtain ⟨gb, off, t, a', c, rfl, hlb, ht, c0, c1', c2, hi⟩ := (HT.out.below hI.below (Nat.le_refl _)).at_ hlk
      have hnew := boxT_new (a := a') (n := t.inn.length) (ca := c) (out := t.out) (want := t.want) wr
      have x0 := hnew.c0
      have x1 := hnew.c1
      have x2 := hnew.c2
      have HI1 := Lib.hid (hI.low hnew.below)
      have hpw := HP.out.below ((HB1.out.trans (hI.below.mono HB1.out.size)).trans (hnew.below.mono (Nat.le_trans HB1.out.size hI.below.size))) (Nat.le_refl _)
      have HSL := Lib.hid (slice_any a a' ca c ps t.inn t.out _ hpw (hi.below hnew.below (Nat.le_refl _)) (by have := HML.out t (mem_of_get ht); omega))
      have HS := Lib.hid (map_take_snoc (slT ps) ht)
      have hpl : ((ws.take k).map (slT ps)).length = k := by simp; omega
      have HPL := Lib.hid hpl
      have hx8 := slT_len ps t
      have HNX := Lib.hid (show slA ps t.inn t.out = slT ps t from rfl)
      rw [HNX.out] at HSL
      generalize slT ps t = y at HSL HS hx8
      generalize slCode ps t.inn t.out = co at HSL
      clear ht hi hI hnew hpw hpl HNX
      go_wp2_with fail
      refine HSL.out.mono ?_
      rintro e w3 ⟨a3, c3, rfl, h3, hB3⟩
      have hI3 := HI1.out.low hB3
      have hal := below_al w3 (.cells #[.slice a3 y.length c3] 34)
      have HI4 := Lib.hid (hI3.low hal)
      have hO := ownL_of h3
      have HO := Lib.hid (show OwnL (w3.alloc (.cells #[.slice a3 y.length c3] 34)) w1.heap.size u5.ownBlock a3 y from (by
        rcases hO with h | ⟨q, q1, q2, q3, q4⟩
        · exact .inl h
        · refine .inr ⟨q, q1, Nat.le_trans HI1.out.below.size q2, fun e => ?_, q4.same (hal.block q q4.lt)⟩
          have := (HI1.out.out.lt q e).2
          omega))
      have hsz := HI1.out.below.size
      have hsz3 := hB3.size
      clear h3 hB3 hI3 hal hO HI1 x0 x1 x2
      go_wp2_with (at_builtin; refine wpList_append_own_at _ rfl (.tmp 27) (.tmp 29) 27 rfl w1.heap.size 34 j0 (.slice none 0 0) 1 24 Tryz.underlying27 hjj jz0 jz1 jz2 rfl (by decide) _ _ _ rfl HI4.out.out ⟨w3.heap.size, 0, none⟩ 1 1 [.slice a3 y.length c3] rfl ?d1 ?d2 ?d3 ?d4 ?d5 ?d6 ?_)
      case d1 => rfl
      case d2 => exact cell_one_new _ _ _
      case d3 => simp [Value.oneCell']
      case d4 => rw [HPL.out]; unfold maxLen; omega
      case d5 => rw [HPL.out]; omega
      case d6 => simp at hsz hsz3 ⊢; omega
      intro v2 w4 hown4 hgrow4 _ hat4
      have hP := HI4.out.push (c := c3) HO.out (by rw [HPL.out]; exact hown4) hgrow4 (by simpa using hat4)
      rw [← HS.out] at hP
      have HP2 := Lib.hid hP
      clear hown4 hgrow4 hat4 hP
      go_wp2_with fail
      go_roundw
      case rel => exact ⟨k + 1, _, by omega, by go_num, HP2.out⟩
      case measure => simp [intOf]; omega
    · obtain rfl : k = ws.length := by omega
      rw [List.take_length] at hI
      obtain ⟨va, vc, rfl⟩ := own_slice hI.out
      obtain ⟨ga, gc, ge, gr, gb⟩ := hI.givesB
      injection ge with ge
      injection ge with g1' g2 g3
      subst g1' g3
      have HG := Lib.hid (gr.wide HB1.out.size)
      have HB4 := Lib.hid (HB1.out.trans (gb.mono HB1.out.size))
      clear hI gr gb
      go_wp2_with fail
      go_ret
      exact ⟨va, vc, by rw [List.length_map]; rfl, HG.out, HB4.out⟩

/-- What Slices answers. -/
def slL (ps : List L) (ts : List T) : List (List Int) := if vpt ps ts = 0 then (fT ps ts).map (slT ps) else []
theorem slL_ok {ps : List L} {ts : List T} (h : vpt ps ts = 0) : slL ps ts = (fT ps ts).map (slT ps) := by unfold slL; rw [if_pos h]
theorem slL_no {ps : List L} {ts : List T} (h : vpt ps ts ≠ 0) : slL ps ts = [] := by unfold slL; rw [if_neg h]
theorem slL_small {ps : List L} {ts : List T} {z : List Int} (h : z ∈ slL ps ts) : setB z = true := by
  unfold slL at h
  split at h
  · obtain ⟨t, _, rfl⟩ := List.mem_map.1 h
    exact slA_set _ _ _
  · simp at h
theorem slL_len (ps : List L) (ts : List T) : (slL ps ts).length ≤ 8 := by
  unfold slL
  split
  · rename_i h
    have h8 := (vts_ok (vpt_ok h).2).1
    have := pL_len false ps ts
    rw [List.length_map]; unfold fT; rw [List.length_map]; omega
  · simp
theorem slL_v (ps : List L) (ts : List T) : vfam (slL ps ts) = 0 :=
  vfam_good (by have := slL_len ps ts; omega) (List.all_eq_true.2 fun z hz => slL_small hz)

set_option maxRecDepth 100000 in
set_option maxHeartbeats 2000000 in
theorem Slices_any (a g : Option Addr) (ca cap : Nat) (ps : List L) (ts : List T) (w : World) (hp : LinesAt w a ps) (hts : TestsAt w g ts) (hm : ts.length ≤ 1000) (hml : ∀ t ∈ ts, t.inn.length ≤ 1000) :
    Calls Tryz.prog 10 #[.slice a ps.length ca, .slice g ts.length cap] w (GivesRowsBE (slL ps ts) (vpt ps ts) w) := by
  have HV := Lib.hid (validateTestsB_any a g ca cap ps ts w hp hts hm hml)
  have HS := Lib.hid (fun w hp hts => slicesOf_any a g ca cap ps ts w hp hts hm hml)
  have HP := Lib.hid hp
  have HT := Lib.hid hts
  clear hp hts
  by_cases hz : vpt ps ts = 0
  · rw [slL_ok hz, hz]
    rw [hz] at HV
    generalize (fT ps ts).map (slT ps) = Z at HS ⊢
    clear hz
    go_enter Tryz.func10, Tryz.ntmps10
    go_wp2_with fail
    refine HV.out.mono ?_
    rintro e w1 ⟨rfl, hB⟩
    have HB := Lib.hid hB
    clear hB
    go_wp2_with fail
    refine (HS.out _ (HP.out.below HB.out (Nat.le_refl _)) (HT.out.below HB.out (Nat.le_refl _))).mono ?_
    rintro e w2 ⟨a2, c2, rfl, h2, hB2⟩
    have HR := Lib.hid (h2.wide HB.out.size)
    have HB2 := Lib.hid (HB.out.trans (hB2.mono HB.out.size))
    clear h2 hB2
    go_wp2_with fail
    go_ret2
    exact ⟨a2, c2, rfl, HR.out, HB2.out⟩
  · rw [slL_no hz]
    generalize vpt ps ts = co at HV hz
    have hz1 : (co != 0) = true := by simpa using hz
    have hz2 : (co == 0) = false := by simpa using hz
    clear hz
    go_enter Tryz.func10, Tryz.ntmps10
    go_wp2_with fail
    refine HV.out.mono ?_
    rintro e w1 ⟨rfl, hB⟩
    go_wp2_with fail
    go_ret2
    exact givesRowsBE_nil hB

/-- What Diagnoses answers. -/
def dgL (ps : List L) (ts : List T) : List (List Int) := if vpt ps ts = 0 then blkL (slL ps ts) else []
theorem dgL_ok {ps : List L} {ts : List T} (h : vpt ps ts = 0) : dgL ps ts = blkL (slL ps ts) := by unfold dgL; rw [if_pos h]
theorem dgL_no {ps : List L} {ts : List T} (h : vpt ps ts ≠ 0) : dgL ps ts = [] := by unfold dgL; rw [if_neg h]

set_option maxRecDepth 100000 in
set_option maxHeartbeats 2000000 in
theorem Diagnoses_any (a g : Option Addr) (ca cap : Nat) (ps : List L) (ts : List T) (w : World) (hp : LinesAt w a ps) (hts : TestsAt w g ts) (hm : ts.length ≤ 1000) (hml : ∀ t ∈ ts, t.inn.length ≤ 1000) :
    Calls Tryz.prog 12 #[.slice a ps.length ca, .slice g ts.length cap] w (GivesRowsBE (dgL ps ts) (vpt ps ts) w) := by
  have HV := Lib.hid (validateTestsB_any a g ca cap ps ts w hp hts hm hml)
  have HS := Lib.hid (fun w hp hts => slicesOf_any a g ca cap ps ts w hp hts hm hml)
  have HP := Lib.hid hp
  have HT := Lib.hid hts
  clear hp hts
  by_cases hz : vpt ps ts = 0
  · have hb := fun b c w h => Blocker_any b c (slL ps ts) w h (fun z hz => by have := setB_len (slL_small hz); omega)
    rw [slL_v, slL_ok hz] at hb
    have HBK := Lib.hid hb
    rw [dgL_ok hz, hz, slL_ok hz]
    rw [hz] at HV
    generalize blkL ((fT ps ts).map (slT ps)) = Y at HBK ⊢
    generalize (fT ps ts).map (slT ps) = Z at HS HBK
    clear hz hb
    go_enter Tryz.func12, Tryz.ntmps12
    go_wp2_with fail
    refine HV.out.mono ?_
    rintro e w1 ⟨rfl, hB⟩
    have HB := Lib.hid hB
    clear hB
    go_wp2_with fail
    refine (HS.out _ (HP.out.below HB.out (Nat.le_refl _)) (HT.out.below HB.out (Nat.le_refl _))).mono ?_
    rintro e w2 ⟨a2, c2, rfl, h2, hB2⟩
    have HR := Lib.hid h2.at_
    have HB2 := Lib.hid (HB.out.trans (hB2.mono HB.out.size))
    clear h2 hB2
    go_wp2_with fail
    refine (HBK.out _ _ _ HR.out).mono ?_
    rintro e w3 ⟨a3, c3, rfl, h3, hB3⟩
    have HR3 := Lib.hid (h3.wide HB2.out.size)
    have HB3 := Lib.hid (HB2.out.trans (hB3.mono HB2.out.size))
    clear h3 hB3
    go_wp2_with fail
    go_ret2
    exact ⟨a3, c3, rfl, HR3.out, HB3.out⟩
  · rw [dgL_no hz]
    generalize vpt ps ts = co at HV hz
    have hz1 : (co != 0) = true := by simpa using hz
    have hz2 : (co == 0) = false := by simpa using hz
    clear hz
    go_enter Tryz.func12, Tryz.ntmps12
    go_wp2_with fail
    refine HV.out.mono ?_
    rintro e w1 ⟨rfl, hB⟩
    go_wp2_with fail
    go_ret2
    exact givesRowsBE_nil hB

end Go.Proofs.YtgoidphamkpmdaaGreat
