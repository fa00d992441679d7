/- sorted, Passing, Failing of the document's answers; Many: contracts. -/
import Derived.Test.YtigaklppdlknkaaGreatWhich
set_option linter.unusedVariables false
set_option linter.unusedSimpArgs false
namespace Go.Proofs.YtigaklppdlknkaaGreat
open Go.RowKit Tinker

set_option maxRecDepth 100000 in
set_option maxHeartbeats 2000000 in
theorem sorted_any (b0 : Bool) (a g : Option Addr) (ca cap : Nat) (ps : List L) (ts : List T) (w : World) (hp : LinesAt w a ps) (hts : TestsAt w g ts) :
    Calls Tryz.prog 173 #[.slice a ps.length ca, .slice g ts.length cap, .bool b0] w (GivesR (pL b0 ps ts) (vpt ps ts) w) := by
  obtain ⟨i0, hi, hz0, hz1, hz2⟩ := info_parts info_int
  have HV := Lib.hid (fun w hp hts => rTested_any a g ca cap ps ts w hp hts)
  by_cases hz : vpt ps ts = 0
  · obtain ⟨h1, h2⟩ := vpt_ok hz
    obtain ⟨t8, hT⟩ := vts_ok h2
    rw [pL_ok hz, hz]
    rw [hz] at HV
    have hbs : (ts.map fun t => pas ps t == b0).length = ts.length := by simp
    have hget := fun (k : Nat) (t : T) (h : ts[k]? = some t) => show (ts.map fun t => pas ps t == b0)[k]? = some (pas ps t == b0) by rw [List.getElem?_map, h]; rfl
    generalize (ts.map fun t => pas ps t == b0) = bs at hbs hget ⊢
    have HG := Lib.hid hget
    have HBS := Lib.hid hbs
    clear hz hget hbs
    go_enter Tryz.func173, Tryz.ntmps173
    go_wp2_with fail
    refine (HV.out _ hp hts).mono ?_
    rintro e w1 ⟨rfl, hB⟩
    go_wp2_with fail
    go_loopw [9, 10] (fun s9 s10 wr => ∃ k : Nat, k ≤ ts.length ∧ s10 = .int .i64 k ∧ wr.ownsRow w.heap.size 3 1 s9 (plcTo bs k).length ((plcTo bs k).map (Value.int .i64)) ∧ Below w.heap.size w wr) (fun _ s10 _ => ts.length - (intOf s10).toNat)
    case atStart => exact ⟨0, Nat.zero_le _, rfl, World.ownsRow_nil _ _ _ _, hB⟩
    case round =>
      clear hB
      obtain ⟨k, hk, rfl, hown, hB⟩ := hrel
      by_cases hlt : k < ts.length
      · obtain ⟨gb, off, t, a', c, rfl, hlb, ht, c0, c1, c2, hi'⟩ := (hts.below hB (Nat.le_refl _)).at_ hlt
        obtain ⟨i1, i2, i3⟩ := isT_ok (hT t (mem_of_get ht))
        obtain ⟨inn, out, want⟩ := t
        have HE := Lib.hid (fun w hp hs => rMade_any a a' ca c ps inn out w hp hs (by unfold vr fe; rw [if_pos h1]; exact i1) i2)
        have HX := Lib.hid (HG.out k _ ht)
        have HPA := Lib.hid (hp.below hB (Nat.le_refl _))
        have HII := Lib.hid hi'
        have HO := Lib.hid hown
        clear ht hi' hown i1 i2 i3 hts hp
        simp only at c0 c1 c2
        have hX := HX.out
        rw [show pas ps ⟨inn, out, want⟩ = (endP ps inn out == want) from rfl] at hX
        generalize endP ps inn out = V at HE hX
        clear HX
        have HX := Lib.hid hX
        clear hX
        go_upto_if 42 with fail
        go_cut [42] (fun s42 wx => s42 = .bool ((V == want) == b0) ∧ Below wr.heap.size wr wx)
        case first =>
          go_region_held3 (fun w' => w'.cell? ⟨gb, off + k * 3, none⟩ = some (.slice a' inn.length c) ∧ w'.cell? ⟨gb, off + k * 3 + 1, none⟩ = some (.int .i64 out) ∧ w'.cell? ⟨gb, off + k * 3 + 2, none⟩ = some (.int .i64 want)) (first | exact ⟨c0, c1, c2⟩ | exact ⟨(hBa.cell (p := ⟨gb, _, none⟩) hlb).trans c0, (hBa.cell (p := ⟨gb, _, none⟩) hlb).trans c1, (hBa.cell (p := ⟨gb, _, none⟩) hlb).trans c2⟩ | go_keep) ((go_at_call 204; refine (HE.out _ ?_ ?_).mono ?_; exact (HPA.out.below (Below.refl _ _).drew (Nat.le_refl _)); exact (HII.out.below (Below.refl _ _).drew (Nat.le_refl _)); rintro e wa ⟨rfl, hBa⟩))
          all_goals go_wp2_with fail
          all_goals go_meet
          all_goals exact ⟨rfl, (Below.refl _ _).drew.trans hBa⟩
        case rest =>
          obtain ⟨rfl, hB2⟩ := hcut
          have hB3 := hB.trans (hB2.mono hB.size)
          have hl := plcTo_length bs k
          have HO2 := Lib.hid (own_below HO.out hB2 (Nat.le_refl _))
          clear hB2 HO c0 c1 c2
          cases hpv : ((V == want) == b0)
          · rw [hpv] at HX
            clear hpv
            go_wp2_with fail
            go_roundw
            case rel => exact ⟨k + 1, by omega, by go_num, by rw [plcTo_no HX.out]; exact HO2.out, hB3⟩
            case measure => simp [intOf]; omega
          · rw [hpv] at HX
            clear hpv
            have hown := HO2.out
            clear HO2
            go_wp2_with (at_builtin; refine wpList_append_own _ rfl (.tmp 43) (.tmp 45) 34 rfl w.heap.size 3 i0 (.int .i64 0) 1 8 Tryz.underlying34 hi hz0 hz1 hz2 rfl (by decide) _ _ _ rfl (hown.alloc _) ⟨wc.heap.size, 0, none⟩ 1 1 [.int .i64 k] rfl rfl ?c1 ?c2 ?c3 ?c4 ?c5 ?_)
            case c1 => exact cell_one_new _ _ _
            case c2 => simp [Value.oneCell']
            case c3 => unfold maxLen; omega
            case c4 => omega
            case c5 => have := hB3.size; simp; omega
            intro v' w3 hown' hgrow _
            have hB4 := (hB3.alloc hB3.size _).grown hgrow (by have := hB3.size; simp; omega) (own_base hown)
            have e : (plcTo bs k).map (Value.int .i64) ++ [.int .i64 k] = (plcTo bs (k + 1)).map (Value.int .i64) := by rw [plcTo_yes HX.out]; simp
            have e2 : (plcTo bs k).length + 1 = (plcTo bs (k + 1)).length := by rw [plcTo_yes HX.out]; simp
            rw [e, e2] at hown'
            have HO := Lib.hid hown'
            clear hown hown' hgrow e e2
            go_wp2_with fail
            go_roundw
            case rel => exact ⟨k + 1, by omega, by go_num, HO.out, hB4⟩
            case measure => simp [intOf]; omega
      · obtain rfl : k = ts.length := by omega
        have hx : plcTo bs ts.length = plc bs := by unfold plc; rw [HBS.out]
        rw [hx] at hown
        obtain ⟨a1, c1, rfl⟩ := own_slice hown
        have HO := Lib.hid hown
        clear hown hx
        go_wp2_with fail
        go_ret2
        exact ⟨a1, c1, rfl, (ints_of_own HO.out).1, hB⟩
  · rw [pL_no hz]
    generalize vpt ps ts = c at HV hz
    have hz1 : (c != 0) = true := by simpa using hz
    have hz2 : (c == 0) = false := by simpa using hz
    clear hz
    go_enter Tryz.func173, Tryz.ntmps173
    go_wp2_with fail
    refine (HV.out _ hp hts).mono ?_
    rintro e w1 ⟨rfl, hB⟩
    go_wp2_with fail
    go_ret2
    exact givesR_nil hB

set_option maxHeartbeats 400000 in
theorem rFailing_any (a g : Option Addr) (ca cap : Nat) (ps : List L) (ts : List T) (w : World) (hp : LinesAt w a ps) (hts : TestsAt w g ts) :
    Calls Tryz.prog 127 #[.slice a ps.length ca, .slice g ts.length cap] w (GivesR (pL false ps ts) (vpt ps ts) w) := by
  go_enter Tryz.func127, Tryz.ntmps127
  go_wp2_with fail
  refine (sorted_any false a g ca cap ps ts _ hp hts).mono ?_
  intro e w1 hG
  obtain ⟨a1, c1, rfl, hi, hB⟩ := hG
  have HI := Lib.hid hi
  clear hi
  go_wp2_with fail
  go_ret2
  exact ⟨a1, c1, rfl, HI.out, hB⟩

/-- Whether tests are many, or long. -/
def manyB (ts : List T) : Bool := decide (50 < ts.length) || ts.any (fun t => decide (100 < t.inn.length))
theorem many_no {ts : List T} (h : manyB ts = false) : ts.length ≤ 50 ∧ ∀ t ∈ ts, t.inn.length ≤ 100 := by
  unfold manyB at h
  simp only [Bool.or_eq_false_iff, decide_eq_false_iff_not] at h
  refine ⟨by omega, fun t ht => ?_⟩
  have := h.2
  rw [List.any_eq_false] at this
  have := this t ht
  simp at this
  omega

set_option maxRecDepth 100000 in
set_option maxHeartbeats 1000000 in
theorem many_any (g : Option Addr) (cap : Nat) (ts : List T) (w : World) (hts : TestsAt w g ts) :
    Calls Tryz.prog 11 #[.slice g ts.length cap] w fun e w' => e = .returned (.bool (manyB ts)) ∧ Below w.heap.size w w' := by
  by_cases h50 : ts.length ≤ 50
  · have HM := Lib.hid (show manyB ts = ts.any (fun t => decide (100 < t.inn.length)) by unfold manyB; rw [show decide (50 < ts.length) = false by simpa using h50]; rfl)
    go_enter Tryz.func11, Tryz.ntmps11
    go_wp2_with fail
    go_loopw [3] (fun s wr => ∃ k : Nat, k ≤ ts.length ∧ s = .int .i64 k ∧ (ts.take k).any (fun t => decide (100 < t.inn.length)) = false ∧ Below w.heap.size w wr) (fun s _ => ts.length - (intOf s).toNat)
    case atStart => exact ⟨0, Nat.zero_le _, rfl, by simp, Below.refl _ _⟩
    case round =>
      obtain ⟨k, hk, rfl, hall, hB⟩ := hrel
      have HA := Lib.hid hall
      clear hall
      by_cases hlt : k < ts.length
      · obtain ⟨b, off, t, a, c, rfl, hlb, ht, c0, c1, c2, hi⟩ := (hts.below hB (Nat.le_refl _)).at_ hlt
        have HT := Lib.hid ht
        have HLG := Lib.hid (fun w => large2_any a t.inn.length c w)
        clear ht hi
        cases hv : decide ((100 : Int) < (t.inn.length : Int))
        · rw [hv] at HLG
          have HV := Lib.hid (show decide (100 < t.inn.length) = false by simp at hv ⊢; omega)
          clear hv
          go_wp2_with fail
          refine (HLG.out _).mono ?_
          rintro e w1 ⟨rfl, rfl⟩
          go_wp2_with fail
          go_roundw
          case rel => exact ⟨k + 1, by omega, by go_num, by rw [List.take_add_one, HT.out, List.any_append, HA.out]; simp; have := HV.out; simp at this; omega, hB⟩
          case measure => simp [intOf]; omega
        · rw [hv] at HLG
          have HX := Lib.hid (show manyB ts = true by rw [HM.out, List.any_eq_true]; exact ⟨t, mem_of_get HT.out, by simp at hv ⊢; omega⟩)
          clear hv
          go_wp2_with fail
          refine (HLG.out _).mono ?_
          rintro e w1 ⟨rfl, rfl⟩
          go_wp2_with fail
          go_ret
          exact ⟨ret_bool HX.out.symm, hB⟩
      · have HX := Lib.hid (show manyB ts = false by rw [HM.out]; have := HA.out; rwa [List.take_of_length_le (by omega)] at this)
        go_wp2_with fail
        go_ret
        exact ⟨ret_bool HX.out.symm, hB⟩
  · have HX := Lib.hid (show manyB ts = true by unfold manyB; rw [show decide (50 < ts.length) = true by simp; omega]; rfl)
    have h50' : 50 < ts.length := by omega
    rw [HX.out]
    clear h50
    go_enter Tryz.func11, Tryz.ntmps11
    go_wp2_with fail
    go_ret
    exact ⟨rfl, Below.refl _ _⟩

/-- Each one does just one of both. -/
theorem plc_both (f : T → Bool) : ∀ (ts : List T) (k : Nat), k ≤ ts.length → (plcTo (ts.map fun t => f t == true) k).length + (plcTo (ts.map fun t => f t == false) k).length = k
  | ts, 0, _ => by simp [plcTo]
  | ts, k + 1, h => by
    have ih := plc_both f ts k (by omega)
    obtain ⟨t, ht⟩ := get_of_lt (show k < ts.length by omega)
    cases hf : f t
    · rw [plcTo_no (l := ts.map fun t => f t == true) (by rw [List.getElem?_map, ht]; simp [hf]), plcTo_yes (l := ts.map fun t => f t == false) (by rw [List.getElem?_map, ht]; simp [hf])]
      rw [List.length_append]; simp only [List.length_singleton]; omega
    · rw [plcTo_yes (l := ts.map fun t => f t == true) (by rw [List.getElem?_map, ht]; simp [hf]), plcTo_no (l := ts.map fun t => f t == false) (by rw [List.getElem?_map, ht]; simp [hf])]
      rw [List.length_append]; simp only [List.length_singleton]; omega
theorem pL_both {ps : List L} {ts : List T} (h : vpt ps ts = 0) : (pL true ps ts).length + (pL false ps ts).length = ts.length := by
  rw [pL_ok h, pL_ok h]
  have := plc_both (pas ps) ts ts.length (Nat.le_refl _)
  unfold plc
  rw [List.length_map, List.length_map]
  exact this
theorem pL_le (b : Bool) (ps : List L) (ts : List T) : (pL b ps ts).length ≤ ts.length := by
  unfold pL
  split
  · have := plcTo_length (ts.map fun t => pas ps t == b) (ts.map fun t => pas ps t == b).length
    unfold plc
    simp only [List.length_map] at this ⊢
    exact this
  · simp

end Go.Proofs.YtigaklppdlknkaaGreat
