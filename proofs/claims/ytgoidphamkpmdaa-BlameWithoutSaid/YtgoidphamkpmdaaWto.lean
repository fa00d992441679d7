/- Without of both: contracts. -/
import Derived.Test.YtgoidphamkpmdaaOrd
set_option linter.unusedVariables false
set_option linter.unusedSimpArgs false
namespace Go.Proofs.Ytgoidphamkpmdaa
open Go.RowKit Tinker

/-- A block of masks. -/
structure RwI (M : Nat) (ms : List Nat) (w W : World) : Prop where
  bm : W.heap[M]? = some (.cells (uv ms).toArray 82 (0, 0))
  hM : w.heap.size ≤ M
  below : Below w.heap.size w W
theorem RwI.low {M : Nat} {ms : List Nat} {w W W' : World} (h : RwI M ms w W) (hb : Below W.heap.size W W') : RwI M ms w W' := ⟨hp_below h.bm hb (hp_lt h.bm), h.hM, h.below.trans (hb.mono h.below.size)⟩
theorem RwI.put {M : Nat} {ms : List Nat} {w W : World} (h : RwI M ms w W) (j x : Nat) : RwI M (ms.set j x) w (W.setCell ⟨M, j, none⟩ (.int .u64 x)) := by
  refine ⟨?_, h.hM, h.below.setCell (p := ⟨M, _, none⟩) h.hM _⟩
  have := hp_put h.bm j (.int .u64 x)
  rw [List.setIfInBounds_toArray] at this
  rw [this]
  have e : (uv ms).set j (.int .u64 x) = uv (ms.set j x) := by unfold uv; rw [List.map_set]
  rw [e]
theorem RwI.cell {M : Nat} {ms : List Nat} {w W : World} (h : RwI M ms w W) {j x : Nat} (hj : ms[j]? = some x) : W.cell? ⟨M, j, none⟩ = some (.int .u64 x) := hp_cell h.bm (by simpa using uv_get hj)
theorem RwI.at_ {M : Nat} {ms : List Nat} {w W : World} (h : RwI M ms w W) : MskAt W (some ⟨M, 0, none⟩) ms :=
  .inr ⟨M, 0, rfl, hp_lt h.bm, fun j n hj => by rw [Nat.zero_add]; exact h.cell hj⟩

set_option maxRecDepth 100000 in
set_option maxHeartbeats 1000000 in
theorem masksOf_own (a : Option Addr) (cap : Nat) (f : List (List Int)) (w : World) (hf : RowsAt w a f) (hv : ∀ s ∈ f, setB s = true) (hm : f.length ≤ 1000) :
    Calls Try.prog 60 #[.slice a f.length cap] w fun e w' => e = .returned (.slice (some ⟨w.heap.size, 0, none⟩) f.length f.length) ∧ RwI w.heap.size (fmM f) w w' := by
  have hmk := mkMasks f.length hm
  have HV := Lib.hid hv
  clear hv
  go_enter Try.func60, Try.ntmps60
  go_wp2_with fail
  go_loopw [11] (fun s11 wr => ∃ k : Nat, k ≤ f.length ∧ s11 = .int .i64 k ∧ MskI w.heap.size (fmM (f.take k)) f.length w wr) (fun s11 _ => f.length - (intOf s11).toNat)
  case atStart => exact ⟨0, Nat.zero_le _, rfl, mskI_new w f.length⟩
  case round =>
    obtain ⟨k, hk, rfl, hI⟩ := hrel
    by_cases hlt : k < f.length
    · obtain ⟨b, off, s, a1, c1, rfl, hlb, hs, h0, hi⟩ := (hf.below hI.below (Nat.le_refl _)).at_ hlt
      have HS := Lib.hid hs
      have HM := Lib.hid (maskOf_any a1 c1 s wr hi (HV.out s (mem_of_get hs)))
      obtain ⟨v, m1⟩ := hI.cell hlt
      have m2 := hp_free hI.bm k
      have hkl : (fmM (f.take k)).length = k := by rw [fmM_len, List.length_take]; omega
      have HI := Lib.hid hI
      have HL := Lib.hid hkl
      clear hf hs hi hI hkl
      go_wp2_with fail
      refine HM.out.mono ?_
      rintro e w1 ⟨rfl, rfl⟩
      go_wp2_with fail
      go_roundw
      case rel =>
        refine ⟨k + 1, by omega, by go_num, ?_⟩
        have h := HI.out.put (by rw [HL.out]; exact hlt) (maskM s)
        rw [HL.out] at h
        have e : fmM (f.take (k + 1)) = fmM (f.take k) ++ [maskM s] := map_take_snoc maskM HS.out
        rw [e]; exact h
      case measure => simp [intOf]; omega
    · obtain rfl : k = f.length := by omega
      rw [List.take_length] at hI
      have HI := Lib.hid hI
      clear hI
      go_wp2_with fail
      go_ret
      refine ⟨rfl, ?_, Nat.le_refl _, HI.out.below⟩
      have h := HI.out.bm
      rw [fmM_len, Nat.sub_self, List.replicate_zero, List.append_nil] at h
      exact h

/-- The family with the number left out of the first sets. -/
def woTo (ms : List Nat) (n k : Nat) : List Nat := (ms.take k).map (fun m => woM m n) ++ ms.drop k
theorem woTo_zero (ms : List Nat) (n : Nat) : woTo ms n 0 = ms := by simp [woTo]
theorem woTo_all (ms : List Nat) (n : Nat) : woTo ms n ms.length = ms.map fun m => woM m n := by simp [woTo]
theorem woTo_len (ms : List Nat) (n k : Nat) : (woTo ms n k).length = ms.length := by simp [woTo]; omega
theorem woTo_get {ms : List Nat} {n k x : Nat} (h : ms[k]? = some x) : (woTo ms n k)[k]? = some x := by
  have hk := (List.getElem?_eq_some_iff.1 h).1
  unfold woTo
  rw [List.getElem?_append_right (by simp; omega), List.length_map, List.length_take, Nat.min_eq_left (by omega), Nat.sub_self, List.getElem?_drop, Nat.add_zero, h]
theorem woTo_step {ms : List Nat} {n k x : Nat} (h : ms[k]? = some x) : (woTo ms n k).set k (woM x n) = woTo ms n (k + 1) := by
  have hk := (List.getElem?_eq_some_iff.1 h).1
  unfold woTo
  have hd : ms.drop k = x :: ms.drop (k + 1) := by
    obtain ⟨hk, rfl⟩ := List.getElem?_eq_some_iff.1 h
    exact List.drop_eq_getElem_cons hk
  have hl : ((ms.take k).map (fun m => woM m n)).length = k := by simp; omega
  rw [List.set_append_right _ _ (by omega), hl, Nat.sub_self, hd, List.set_cons_zero, List.take_add_one, h, List.map_append]
  simp

/-- What Without answers. -/
def wiC (f : List (List Int)) (n : Int) : Int := if vfam f = 0 then (if btw n 0 7 = true then 0 else 1) else vfam f
def wiL (f : List (List Int)) (n : Int) : List (List Int) := if wiC f n = 0 then ((fmM f).map fun m => woM m n.toNat).map numsM else []
theorem wiL_small {f : List (List Int)} {n : Int} {z : List Int} (h : z ∈ wiL f n) : z.length ≤ 8 := by
  unfold wiL at h
  split at h
  · obtain ⟨m, _, rfl⟩ := List.mem_map.1 h
    exact numsM_len m
  · simp at h
theorem wiC_vfam {f : List (List Int)} {n : Int} (h : wiC f n = 0) : vfam f = 0 := by
  unfold wiC at h
  split at h
  · assumption
  · exact h
theorem wiL_len (f : List (List Int)) (n : Int) : (wiL f n).length ≤ 70 := by
  unfold wiL
  split
  · rename_i h
    have := (vfam_ok (wiC_vfam h)).1
    rw [List.length_map, List.length_map, fmM_len]; exact this
  · simp

set_option maxRecDepth 100000 in
set_option maxHeartbeats 2000000 in
theorem Without_any (a : Option Addr) (cap : Nat) (f : List (List Int)) (n : Int) (w : World) (hf : RowsAt w a f) (hm : ∀ z ∈ f, z.length ≤ 1000) :
    Calls Try.prog 40 #[.slice a f.length cap, .int .i64 n] w (GivesRowsBE (wiL f n) (wiC f n) w) := by
  have HV := Lib.hid (validateF_any a cap f w hf hm)
  have HIB := Lib.hid (fun w => isBetween_any n 0 7 w)
  by_cases hz : vfam f = 0
  · obtain ⟨h70, hs⟩ := vfam_ok hz
    rw [hz] at HV
    cases hb : btw n 0 7
    · have e1 : wiC f n = 1 := by unfold wiC; rw [if_pos hz, hb]; rfl
      have e2 : wiL f n = [] := by unfold wiL; rw [if_neg (by omega)]
      rw [e1, e2]
      rw [hb] at HIB
      clear hf hz hs hb e1 e2
      go_enter Try.func40, Try.ntmps40
      go_wp2_with fail
      refine HV.out.mono ?_
      rintro e w1 ⟨rfl, hB⟩
      go_wp2_with fail
      refine (HIB.out _).mono ?_
      rintro e w2 ⟨rfl, rfl⟩
      go_wp2_with fail
      go_ret2
      exact givesRowsBE_nil hB
    · have e1 : wiC f n = 0 := by unfold wiC; rw [if_pos hz, hb]; rfl
      have e2 : wiL f n = ((fmM f).map fun m => woM m n.toNat).map numsM := by unfold wiL; rw [if_pos e1]
      rw [e1, e2]
      rw [hb] at HIB
      have hbb := btw_true.1 hb
      obtain ⟨k0, rfl⟩ : ∃ k0 : Nat, n = k0 := ⟨n.toNat, by omega⟩
      have hk8 : k0 < 8 := by omega
      rw [show ((k0 : Int)).toNat = k0 by omega]
      have hlt := fmM_lt hs
      have hfl : (fmM f).length = f.length := fmM_len f
      have H1 := Lib.hid (fun w h => masksOf_own a cap f w h hs (by omega))
      have H3 := Lib.hid (fun b c w h => family_any b c ((fmM f).map fun m => woM m k0) w h (fun m hm => by
        obtain ⟨x, hx, rfl⟩ := List.mem_map.1 hm
        exact wo_lt x (hlt x hx) k0 hk8) (by simp; omega))
      rw [List.length_map, hfl] at H3
      have HR := Lib.hid hf
      have hwa := woTo_all (fmM f) k0
      generalize fmM f = ms at H1 H3 hlt hfl hwa ⊢
      have HLT := Lib.hid hlt
      have HFL := Lib.hid hfl
      have HWA := Lib.hid hwa
      clear hz hs hf hm hlt hb e1 e2 hbb hfl hwa
      go_enter Try.func40, Try.ntmps40
      go_wp2_with fail
      refine HV.out.mono ?_
      rintro e w1 ⟨rfl, hB⟩
      have HB := Lib.hid hB
      clear hB
      go_wp2_with fail
      refine (HIB.out _).mono ?_
      rintro e w2 ⟨rfl, rfl⟩
      go_wp2_with fail
      refine (H1.out _ (HR.out.below HB.out (Nat.le_refl _))).mono ?_
      rintro e w2 ⟨rfl, hI2⟩
      have HI2 := Lib.hid hI2
      clear hI2
      go_wp2_with fail
      go_loopw [22] (fun s22 wr => ∃ k : Nat, k ≤ f.length ∧ s22 = .int .i64 k ∧ RwI w1.heap.size (woTo ms k0 k) w1 wr) (fun s22 _ => f.length - (intOf s22).toNat)
      case atStart => exact ⟨0, Nat.zero_le _, rfl, by rw [woTo_zero]; exact HI2.out⟩
      case round =>
        clear HI2
        obtain ⟨k, hk, rfl, hI⟩ := hrel
        by_cases hlk : k < f.length
        · obtain ⟨x, hx⟩ := get_of_lt (show k < ms.length by rw [HFL.out]; exact hlk)
          have x0 := hI.cell (woTo_get (n := k0) hx)
          have m2 := hp_free hI.bm k
          have HW := Lib.hid (fun w => without_any x k0 (HLT.out x (mem_of_get hx)) hk8 w)
          have HS := Lib.hid (woTo_step (n := k0) hx)
          have HI := Lib.hid hI
          clear hx hI
          go_wp2_with fail
          refine (HW.out _).mono ?_
          rintro e w3 ⟨rfl, rfl⟩
          go_wp2_with fail
          go_roundw
          case rel => exact ⟨k + 1, by omega, by go_num, by rw [← HS.out]; exact HI.out.put k _⟩
          case measure => simp [intOf]; omega
        · obtain rfl : k = ms.length := by have := HFL.out; omega
          rw [HWA.out] at hI
          have HI := Lib.hid hI
          clear hI
          go_wp2_with fail
          refine (H3.out _ _ _ HI.out.at_).mono ?_
          rintro e w4 ⟨a4, c4, rfl, h4, hB4⟩
          have HM4 := Lib.hid (h4.wide (Nat.le_trans HB.out.size HI.out.below.size))
          have HB4 := Lib.hid ((HB.out.trans (HI.out.below.mono HB.out.size)).trans (hB4.mono (Nat.le_trans HB.out.size HI.out.below.size)))
          clear h4 hB4
          go_wp2_with fail
          go_ret2
          exact ⟨a4, c4, by simp, HM4.out, HB4.out⟩
  · have e1 : wiC f n = vfam f := by unfold wiC; rw [if_neg hz]
    have e2 : wiL f n = [] := by unfold wiL; rw [if_neg (by omega)]
    rw [e1, e2]
    generalize vfam f = co at HV hz
    have hz1 : (co != 0) = true := by simpa using hz
    have hz2 : (co == 0) = false := by simpa using hz
    clear hz hf hm e1 e2
    go_enter Try.func40, Try.ntmps40
    go_wp2_with fail
    refine HV.out.mono ?_
    rintro e w1 ⟨rfl, hB⟩
    go_wp2_with fail
    go_ret2
    exact givesRowsBE_nil hB

set_option maxRecDepth 100000 in
set_option maxHeartbeats 2000000 in
theorem rWithout_any (a : Option Addr) (cap : Nat) (f : List (List Int)) (n : Int) (w : World) (hf : RowsAt w a f) (hm : ∀ z ∈ f, z.length ≤ 1000) :
    Calls Try.prog 41 #[.slice a f.length cap, .int .i64 n] w (GivesRowsBE (wiL f n) (wiC f n) w) := by
  obtain ⟨j0, hjj, jz0, jz1, jz2⟩ := info_parts info_ints
  have HV := Lib.hid (rValidate3_any a cap f w hf hm)
  have HIB := Lib.hid (fun w => within3b_any n 0 7 w)
  by_cases hz : vfam f = 0
  · obtain ⟨h70, hs⟩ := vfam_ok hz
    rw [hz] at HV
    cases hb : btw n 0 7
    · have e1 : wiC f n = 1 := by unfold wiC; rw [if_pos hz, hb]; rfl
      have e2 : wiL f n = [] := by unfold wiL; rw [if_neg (by omega)]
      rw [e1, e2]
      rw [hb] at HIB
      clear hf hz hs hb e1 e2
      go_enter Try.func41, Try.ntmps41
      go_wp2_with fail
      refine HV.out.mono ?_
      rintro e w1 ⟨rfl, hB⟩
      go_wp2_with fail
      refine (HIB.out _).mono ?_
      rintro e w2 ⟨rfl, rfl⟩
      go_wp2_with fail
      go_ret2
      exact givesRowsBE_nil hB
    · have e1 : wiC f n = 0 := by unfold wiC; rw [if_pos hz, hb]; rfl
      have e2 : wiL f n = ((fmM f).map fun m => woM m n.toNat).map numsM := by unfold wiL; rw [if_pos e1]
      rw [e1, e2]
      rw [hb] at HIB
      have hbb := btw_true.1 hb
      obtain ⟨k0, rfl⟩ : ∃ k0 : Nat, n = k0 := ⟨n.toNat, by omega⟩
      have hk8 : k0 < 8 := by omega
      rw [show ((k0 : Int)).toNat = k0 by omega, List.map_map]
      have hlt := fmM_lt hs
      have hfl : (ni (fmM f)).length = (fmM f).length := ni_len _
      have hm70 : (fmM f).length ≤ 70 := by rw [fmM_len]; omega
      have H1 := Lib.hid (fun w h => rMasks_any a cap f w h hs (by omega))
      have HR := Lib.hid hf
      generalize fmM f = ms at H1 hlt hfl hm70 ⊢
      have HLT := Lib.hid hlt
      have HFL := Lib.hid hfl
      have h4 : min k0 64 = k0 := by omega
      have h9 := wrap_powi hk8
      clear hz hs hf hm hlt hb e1 e2 hbb hfl
      go_enter Try.func41, Try.ntmps41
      go_wp2_with fail
      refine HV.out.mono ?_
      rintro e w1 ⟨rfl, hB⟩
      have HB := Lib.hid hB
      clear hB
      go_wp2_with fail
      refine (HIB.out _).mono ?_
      rintro e w2 ⟨rfl, rfl⟩
      go_wp2_with fail
      refine (H1.out _ (HR.out.below HB.out (Nat.le_refl _))).mono ?_
      rintro e w2 ⟨a2, c2, rfl, h2, hB2⟩
      have HM2 := Lib.hid (ints_of_own h2).1
      have HB2 := Lib.hid (HB.out.trans (hB2.mono HB.out.size))
      rw [HFL.out]
      clear h2 hB2
      go_wp2_with fail
      go_loopw [7, 9] (fun s7 s9 wr => ∃ (k : Nat) (xs : List Value), k ≤ ms.length ∧ s9 = .int .i64 k ∧ RowsI w2 s7 ((ms.take k).map (numsM ∘ fun m => woM m k0)) xs wr) (fun _ s9 _ => ms.length - (intOf s9).toNat)
      case atStart => exact ⟨0, [], Nat.zero_le _, rfl, RowsI.nil (Below.refl _ _)⟩
      case round =>
        obtain ⟨k, xs, hk, rfl, hI⟩ := hrel
        by_cases hlk : k < ms.length
        · obtain ⟨b, off, z, rfl, hlb, hx', h0⟩ := (HM2.out.below hI.below (Nat.le_refl _)).at_ (k := k) (by rw [ni_len]; exact hlk)
          obtain ⟨x, rfl, hx⟩ := ni_get hx'
          have hxl := HLT.out x (mem_of_get hx)
          have h2 : bits BinOp.andNot IntKind.i64 (x : Int) (2 ^ k0) = ((woM x k0 : Nat) : Int) := by rw [powi, ← subt_wo hxl hk8]; exact bits_not_i hxl (pow8 hk8).1
          have HLI := Lib.hid (rList3_any (woM x k0) (wo_lt x hxl k0 hk8) wr)
          have HS := Lib.hid (map_take_snoc (numsM ∘ fun m => woM m k0) hx)
          have hpl : ((ms.take k).map (numsM ∘ fun m => woM m k0)).length = k := by simp; omega
          have hx8 := numsM_len (woM x k0)
          have HI := Lib.hid hI
          have HPL := Lib.hid hpl
          have HNX := Lib.hid (show (numsM ∘ fun m => woM m k0) x = numsM (woM x k0) from rfl)
          rw [HNX.out] at HS
          generalize numsM (woM x k0) = y at HLI HS hx8
          clear hx hx' hI hpl HNX
          go_wp2_with fail
          refine HLI.out.mono ?_
          rintro e w3 ⟨a3, c3, rfl, h3, hB3⟩
          have hI3 := HI.out.low hB3
          have hal := below_al w3 (.cells #[.slice a3 y.length c3] 23)
          have HI4 := Lib.hid (hI3.low hal)
          have hO : OwnL w3 wr.heap.size none a3 y := ownL_of h3
          have HO := Lib.hid (show OwnL (w3.alloc (.cells #[.slice a3 y.length c3] 23)) w2.heap.size u7.ownBlock a3 y from (by
            rcases hO with h | ⟨q, q1, q2, q3, q4⟩
            · exact .inl h
            · refine .inr ⟨q, q1, Nat.le_trans HI.out.below.size q2, fun e => ?_, q4.same (hal.block q q4.lt)⟩
              have := (HI.out.out.lt q e).2
              omega))
          have hsz := HI.out.below.size
          have hsz3 := hB3.size
          clear h3 hB3 hI3 hal hO HI
          go_wp2_with (at_builtin; refine wpList_append_own_at _ rfl (.tmp 26) (.tmp 36) 22 rfl w2.heap.size 23 j0 (.slice none 0 0) 1 24 Try.underlying22 hjj jz0 jz1 jz2 rfl (by decide) _ _ _ rfl HI4.out.out ⟨w3.heap.size, 0, none⟩ 1 1 [.slice a3 y.length c3] rfl ?d1 ?d2 ?d3 ?d4 ?d5 ?d6 ?_)
          case d1 => rfl
          case d2 => exact cell_one_new _ _ _
          case d3 => simp [Value.oneCell']
          case d4 => rw [HPL.out]; unfold maxLen; omega
          case d5 => rw [HPL.out]; omega
          case d6 => simp; omega
          intro v2 w4 hown4 hgrow4 _ hat4
          have hP := HI4.out.push (c := c3) HO.out (by rw [HPL.out]; exact hown4) hgrow4 (by simpa using hat4)
          rw [← HS.out] at hP
          have HP := Lib.hid hP
          clear hown4 hgrow4 hat4 hP
          go_wp2_with fail
          go_roundw
          case rel => exact ⟨k + 1, _, by omega, by go_num, HP.out⟩
          case measure => simp [intOf]; omega
        · obtain rfl : k = ms.length := by omega
          rw [List.take_length] at hI
          obtain ⟨va, vc, rfl⟩ := own_slice hI.out
          obtain ⟨ga, gc, ge, gr, gb⟩ := hI.givesB
          injection ge with ge
          injection ge with g1 g2 g3
          subst g1 g3
          have HG := Lib.hid (gr.wide HB2.out.size)
          have HB4 := Lib.hid (HB2.out.trans (gb.mono HB2.out.size))
          clear hI gr gb
          go_wp2_with fail
          go_ret2
          exact ⟨va, vc, by rw [List.length_map]; rfl, HG.out, HB4.out⟩
  · have e1 : wiC f n = vfam f := by unfold wiC; rw [if_neg hz]
    have e2 : wiL f n = [] := by unfold wiL; rw [if_neg (by omega)]
    rw [e1, e2]
    generalize vfam f = co at HV hz
    have hz1 : (co != 0) = true := by simpa using hz
    have hz2 : (co == 0) = false := by simpa using hz
    clear hz hf hm e1 e2
    go_enter Try.func41, Try.ntmps41
    go_wp2_with fail
    refine HV.out.mono ?_
    rintro e w1 ⟨rfl, hB⟩
    go_wp2_with fail
    go_ret2
    exact givesRowsBE_nil hB

end Go.Proofs.Ytgoidphamkpmdaa
