/- Least of the document's side: contract. -/
import Derived.Test.YtgoidphamkpmdaaLst
import Derived.Test.YtgoidphamkpmdaaRbk
import Derived.BigQuiet
set_option linter.unusedVariables false
set_option linter.unusedSimpArgs false
namespace Go.Proofs.Ytgoidphamkpmdaa
open Go.RowKit Tinker

/-- What stands at j takes the set at i out. -/
def badP (ms : List Nat) (i j : Nat) : Bool :=
  (ms.getD j 0 != ms.getD i 0 && (ms.getD j 0 &&& ms.getD i 0) == ms.getD j 0) || (decide (j < i) && ms.getD j 0 == ms.getD i 0)
def okTo (ms : List Nat) (i k : Nat) : Bool := (List.range k).all fun j => !badP ms i j
theorem okTo_succ (ms : List Nat) (i k : Nat) : okTo ms i (k + 1) = (okTo ms i k && !badP ms i k) := by unfold okTo; rw [List.range_succ, List.all_append]; simp
def lsTo (ms : List Nat) (k : Nat) : List Nat := ((List.range k).filter fun i => okTo ms i ms.length).map fun i => ms.getD i 0
theorem lsTo_yes {ms : List Nat} {k : Nat} (h : okTo ms k ms.length = true) : lsTo ms (k + 1) = lsTo ms k ++ [ms.getD k 0] := by unfold lsTo; rw [List.range_succ, List.filter_append]; simp [h]
theorem lsTo_no {ms : List Nat} {k : Nat} (h : okTo ms k ms.length = false) : lsTo ms (k + 1) = lsTo ms k := by unfold lsTo; rw [List.range_succ, List.filter_append, List.filter_cons_of_neg (by simp [h])]; simp
theorem lsTo_len (ms : List Nat) (k : Nat) : (lsTo ms k).length ≤ k := by unfold lsTo; rw [List.length_map]; exact Nat.le_trans (List.length_filter_le _ _) (by simp)
theorem first_at {m : Nat} : ∀ {l : List Nat}, m ∈ l → ∃ i : Nat, l[i]? = some m ∧ ∀ j : Nat, j < i → l[j]? ≠ some m
  | [], h => by simp at h
  | x :: r, h => by
    by_cases e : x = m
    · subst e; exact ⟨0, rfl, fun j hj => by omega⟩
    · obtain ⟨i, h1, h2⟩ := first_at (l := r) (by rcases List.mem_cons.1 h with h | h; exact absurd h.symm e; exact h)
      refine ⟨i + 1, by simpa using h1, fun j hj => ?_⟩
      match j with
      | 0 => simp; exact e
      | j + 1 => simp only [List.getElem?_cons_succ]; exact h2 j (by omega)
theorem nat_getD {ms : List Nat} {k m : Nat} (h : ms[k]? = some m) : ms.getD k 0 = m := by rw [List.getD_eq_getElem?_getD, h]; rfl
theorem lsTo_iff {ms : List Nat} {m : Nat} : m ∈ lsTo ms ms.length ↔ leastB ms m = true := by
  rw [leastB_iff]
  unfold lsTo
  simp only [List.mem_map, List.mem_filter, List.mem_range]
  constructor
  · rintro ⟨i, ⟨hi, hok⟩, rfl⟩
    obtain ⟨y, hy⟩ := get_of_lt hi
    rw [nat_getD hy]
    refine ⟨mem_of_get hy, fun x hx hs => ?_⟩
    obtain ⟨j, hj⟩ := List.getElem?_of_mem hx
    have hjl := (List.getElem?_eq_some_iff.1 hj).1
    have h1 := List.all_eq_true.1 hok j (by simpa using hjl)
    unfold badP at h1
    rw [nat_getD hy, nat_getD hj] at h1
    have h2 := subM_and.2 hs
    by_cases e : x = y
    · exact e
    · have h3 : (x != y) = true := by simpa using e
      rw [h2, h3] at h1
      simp at h1
  · rintro ⟨hm, hall⟩
    obtain ⟨i, hi, hfst⟩ := first_at hm
    have hil := (List.getElem?_eq_some_iff.1 hi).1
    refine ⟨i, ⟨hil, List.all_eq_true.2 fun j hj => ?_⟩, nat_getD hi⟩
    have hjl : j < ms.length := by simpa using hj
    obtain ⟨x, hx⟩ := get_of_lt hjl
    unfold badP
    rw [nat_getD hi, nat_getD hx]
    by_cases e : x = m
    · subst e
      have h1 : ¬ j < i := fun hji => hfst j hji hx
      simp [h1]
    · have h1 : (x &&& m == x) = false := by
        cases hb : (x &&& m == x)
        · rfl
        · exact absurd (hall x (mem_of_get hx) (subM_and.1 hb)) e
      have h2 : (x == m) = false := by simpa using e
      rw [h1, h2]
      simp
theorem lsTo_nodup (ms : List Nat) : (lsTo ms ms.length).Nodup := by
  unfold lsTo
  refine List.pairwise_map.2 ?_
  refine List.Pairwise.imp_of_mem (R := (· < ·)) (fun {i j} hi hj hlt e => ?_) (List.pairwise_lt_range.sublist List.filter_sublist)
  have hj2 := (List.mem_filter.1 hj).2
  have hjl : j < ms.length := by simpa using (List.mem_filter.1 hj).1
  have h1 := List.all_eq_true.1 hj2 i (by simp; omega)
  unfold badP at h1
  rw [e] at h1
  simp [hlt] at h1
theorem ls_ord {ms : List Nat} (h : ∀ x ∈ ms, x < 256) : ordL (lsTo ms ms.length) = (leastM ms).map numsM :=
  ordL_eq (lsTo_nodup ms) fun m => by
    rw [lsTo_iff]
    exact ⟨fun hm => ⟨h m (leastB_iff.1 hm).1, hm⟩, fun hm => hm.2⟩
theorem badP_at {ms : List Nat} {i j x y : Nat} (hx : ms[j]? = some x) (hy : ms[i]? = some y) : badP ms i j = ((x != y && (x &&& y) == x) || (decide (j < i) && x == y)) := by
  unfold badP; rw [nat_getD hx, nat_getD hy]

set_option maxRecDepth 100000 in
set_option maxHeartbeats 4000000 in
theorem rLeast_any (a : Option Addr) (cap : Nat) (f : List (List Int)) (w : World) (hf : RowsAt w a f) (hm : ∀ z ∈ f, z.length ≤ 1000) :
    Calls Try.prog 27 #[.slice a f.length cap] w (GivesRowsBE (lstL f) (vfam f) w) := by
  obtain ⟨i0, hi, hz0, hz1, hz2⟩ := info_parts info_int
  have HV := Lib.hid (rValidate3_any a cap f w hf hm)
  by_cases hz : vfam f = 0
  · obtain ⟨h70, hs⟩ := vfam_ok hz
    have hfl := fmM_len f
    have hlt := fmM_lt hs
    have H1 := Lib.hid (fun w h => rMasks_any a cap f w h hs (by omega))
    have H3 := Lib.hid (fun b c w h => ordered_any b c (lsTo (fmM f) (fmM f).length) w h (fun m hm => hlt m (leastB_iff.1 (lsTo_iff.1 hm)).1) (by have := lsTo_len (fmM f) (fmM f).length; omega))
    rw [ls_ord hlt] at H3
    rw [lstL_ok hz, hz]
    rw [hz] at HV
    generalize (leastM (fmM f)).map numsM = Z at H3 ⊢
    generalize fmM f = ms at H1 H3 hfl hlt
    have hl1 : (ni ms).length = ms.length := ni_len _
    have hl2 : (ni (lsTo ms ms.length)).length = (lsTo ms ms.length).length := ni_len _
    have HR := Lib.hid hf
    have HL1 := Lib.hid hl1
    have HL2 := Lib.hid hl2
    have HLT := Lib.hid hlt
    have hms : ms.length ≤ 70 := by omega
    clear hz hs hf hm hl1 hl2 hlt hfl h70
    go_enter Try.func27, Try.ntmps27
    go_wp2_with fail
    refine HV.out.mono ?_
    rintro e w1 ⟨rfl, hB⟩
    have HB := Lib.hid hB
    clear hB
    go_wp2_with fail
    refine (H1.out _ (HR.out.below HB.out (Nat.le_refl _))).mono ?_
    rintro e w2 ⟨a2, c2, rfl, h2, hB2⟩
    have HM2 := Lib.hid (ints_of_own h2).1
    have HB2 := Lib.hid (HB.out.trans (hB2.mono HB.out.size))
    rw [HL1.out]
    clear h2 hB2 HB HR HV H1
    go_wp2_with fail
    go_loopw [6, 7] (fun s6 s7 wr => ∃ i : Nat, i ≤ ms.length ∧ s7 = .int .i64 i ∧ wr.ownsRow w2.heap.size 3 1 s6 (lsTo ms i).length ((ni (lsTo ms i)).map (Value.int .i64)) ∧ Below w2.heap.size w2 wr) (fun _ s7 _ => ms.length - (intOf s7).toNat)
    case atStart => exact ⟨0, Nat.zero_le _, rfl, World.ownsRow_nil _ _ _ _, Below.refl _ _⟩
    case round =>
      obtain ⟨i, hi1, rfl, hown, hB⟩ := hrel
      have HO := Lib.hid hown
      have HB := Lib.hid hB
      have hll := lsTo_len ms i
      have HM := Lib.hid (HM2.out.below hB (Nat.le_refl _))
      clear hown hB
      by_cases hlt : i < ms.length
      · go_wp2_with fail
        go_loopw [8, 9] (fun s8 s9 wx => ∃ j : Nat, j ≤ ms.length ∧ s9 = .int .i64 j ∧ s8 = .bool (okTo ms i j) ∧ Below wr.heap.size wr wx) (fun _ s9 _ => ms.length - (intOf s9).toNat)
        case atStart => exact ⟨0, Nat.zero_le _, rfl, rfl, Below.refl _ _⟩
        case round =>
          obtain ⟨j, hj1, rfl, rfl, hBx⟩ := hrel
          have HBX := Lib.hid hBx
          have hI := HM.out.below hBx (Nat.le_refl _)
          clear hBx
          by_cases hlj : j < ms.length
          · obtain ⟨b, off, n1, rfl, hlb, hn1, x0⟩ := hI.at_ (k := j) (by rw [ni_len]; exact hlj)
            obtain ⟨b', off', n2, e2, hlb2, hn2, x1⟩ := hI.at_ (k := i) (by rw [ni_len]; exact hlt)
            injection e2 with e2
            injection e2 with e3 e4
            subst e3 e4
            obtain ⟨x, rfl, hx⟩ := ni_get hn1
            obtain ⟨y, rfl, hy⟩ := ni_get hn2
            have hxl := HLT.out x (mem_of_get hx)
            have hyl := HLT.out y (mem_of_get hy)
            have hq := bits_and_i hxl hyl
            have hal : x &&& y ≤ x := Nat.and_le_left
            have HE := Lib.hid ((okTo_succ ms i j).trans (by rw [badP_at hx hy]))
            generalize okTo ms i j = G at HE
            clear hI hn1 hn2 hx hy
            by_cases hxy : x = y
            · subst hxy
              have d1 : ((x : Int) != (x : Int)) = false := by simp
              have d2 : ((x : Int) == (x : Int)) = true := by simp
              by_cases hji : j < i
              · have HE2 := Lib.hid (HE.out.trans (show _ = false by simp [hji]))
                have d3 : decide ((j : Int) < (i : Int)) = true := by simp; omega
                clear HE hq hal
                go_wp2_with fail
                go_quiet (fail)
                go_wp2_with fail
                go_roundw
                case rel => exact ⟨j + 1, by omega, by go_num, by rw [HE2.out], HBX.out.trans (Below.mono ⟨rfl, rfl, rfl, Nat.le_refl _, fun _ _ => rfl⟩ HBX.out.size)⟩
                case measure => simp [intOf]; omega
              · have HE2 := Lib.hid (HE.out.trans (show _ = G by simp [hji]))
                have d3 : decide ((j : Int) < (i : Int)) = false := by simp; omega
                clear HE hq hal
                go_wp2_with fail
                go_quiet (fail)
                go_wp2_with fail
                go_roundw
                case rel => exact ⟨j + 1, by omega, by go_num, by rw [HE2.out], HBX.out.trans (Below.mono ⟨rfl, rfl, rfl, Nat.le_refl _, fun _ _ => rfl⟩ HBX.out.size)⟩
                case measure => simp [intOf]; omega
            · have d1 : ((x : Int) != (y : Int)) = true := by simp; omega
              have d2 : ((x : Int) == (y : Int)) = false := by simp; omega
              generalize x &&& y = z at hq HE hal
              by_cases hzx : z = x
              · have HE2 := Lib.hid (HE.out.trans (show _ = false by simp [hzx, hxy]))
                have d4 : ((z : Int) == (x : Int)) = true := by simp; omega
                clear HE
                go_wp2_with fail
                go_quiet (fail)
                go_wp2_with fail
                go_roundw
                case rel => exact ⟨j + 1, by omega, by go_num, by rw [HE2.out], HBX.out.trans (Below.mono ⟨rfl, rfl, rfl, Nat.le_refl _, fun _ _ => rfl⟩ HBX.out.size)⟩
                case measure => simp [intOf]; omega
              · have HE2 := Lib.hid (HE.out.trans (show _ = G by simp [hzx, hxy]))
                have d4 : ((z : Int) == (x : Int)) = false := by simp; omega
                clear HE
                by_cases hji : j < i
                · have d3 : decide ((j : Int) < (i : Int)) = true := by simp; omega
                  go_wp2_with fail
                  go_quiet (fail)
                  go_wp2_with fail
                  go_roundw
                  case rel => exact ⟨j + 1, by omega, by go_num, by rw [HE2.out], HBX.out.trans (Below.mono ⟨rfl, rfl, rfl, Nat.le_refl _, fun _ _ => rfl⟩ HBX.out.size)⟩
                  case measure => simp [intOf]; omega
                · have d3 : decide ((j : Int) < (i : Int)) = false := by simp; omega
                  go_wp2_with fail
                  go_quiet (fail)
                  go_wp2_with fail
                  go_roundw
                  case rel => exact ⟨j + 1, by omega, by go_num, by rw [HE2.out], HBX.out.trans (Below.mono ⟨rfl, rfl, rfl, Nat.le_refl _, fun _ _ => rfl⟩ HBX.out.size)⟩
                  case measure => simp [intOf]; omega
          · obtain rfl : j = ms.length := by omega
            cases hok : okTo ms i ms.length
            · have HE := Lib.hid (lsTo_no hok)
              have HO2 := Lib.hid (own_below HO.out HBX.out (Nat.le_refl _))
              have HB2 := Lib.hid (HB.out.trans (HBX.out.mono HB.out.size))
              clear hok hI HO
              go_wp2_with fail
              go_roundw
              case rel => exact ⟨i + 1, by omega, by go_num, by rw [HE.out]; exact HO2.out, HB2.out⟩
              case measure => simp [intOf]; omega
            · have HE := Lib.hid (lsTo_yes hok)
              have HO2 := Lib.hid (own_below HO.out HBX.out (Nat.le_refl _))
              have HB3 := Lib.hid (HB.out.trans (HBX.out.mono HB.out.size))
              obtain ⟨b, off, n1, rfl, hlb, hn1, x0⟩ := hI.at_ (k := i) (by rw [ni_len]; exact hlt)
              obtain ⟨m, rfl, hy⟩ := ni_get hn1
              have HY := Lib.hid (nat_getD hy)
              rw [HY.out] at HE
              clear hok hI hn1 hy HO
              have hown := HO2.out
              go_wp2_with (at_builtin; refine wpList_append_own _ rfl (.tmp 71) (.tmp 76) 23 rfl w2.heap.size 3 i0 (.int .i64 0) 1 8 Try.underlying23 hi hz0 hz1 hz2 rfl (by decide) _ _ _ rfl (hown.alloc _) ⟨wr.heap.size, 0, none⟩ 1 1 [.int .i64 m] rfl rfl ?c1 ?c2 ?c3 ?c4 ?c5 ?_)
              case c1 => exact cell_one_new _ _ _
              case c2 => simp [Value.oneCell']
              case c3 => unfold maxLen; omega
              case c4 => omega
              case c5 => have := HB3.out.size; simp; omega
              intro v' w1 hown' hgrow _
              have hB1 : Below w2.heap.size w2 w1 := (HB3.out.alloc HB3.out.size _).grown hgrow (by have := HB3.out.size; simp; omega) (own_base hown)
              have e : (ni (lsTo ms i)).map (Value.int .i64) ++ [.int .i64 (m : Int)] = (ni (lsTo ms (i + 1))).map (Value.int .i64) := by rw [HE.out]; simp [ni]
              have e2 : (lsTo ms i).length + 1 = (lsTo ms (i + 1)).length := by rw [HE.out]; simp
              rw [e, e2] at hown'
              have HO' := Lib.hid hown'
              clear hown hown' hgrow e e2
              go_wp2_with fail
              go_roundw
              case rel => exact ⟨i + 1, by omega, by go_num, HO'.out, hB1⟩
              case measure => simp [intOf]; omega
      · obtain rfl : i = ms.length := by omega
        obtain ⟨va, vc, rfl⟩ := own_slice HO.out
        have HI := Lib.hid (ints_of_own HO.out).1
        have HB5 := Lib.hid (HB2.out.trans (HB.out.mono HB2.out.size))
        clear HO
        go_wp2_with fail
        refine (H3.out _ _ _ HI.out).mono ?_
        rintro e w4 ⟨a4, c4, rfl, h4, hB4⟩
        have HM4 := Lib.hid (h4.wide HB5.out.size)
        have HB6 := Lib.hid (HB5.out.trans (hB4.mono HB5.out.size))
        clear h4 hB4
        go_wp2_with fail
        go_ret2
        exact ⟨a4, c4, rfl, HM4.out, HB6.out⟩
  · rw [lstL_no hz]
    generalize vfam f = c at HV hz
    have hz1 : (c != 0) = true := by simpa using hz
    have hz2 : (c == 0) = false := by simpa using hz
    clear hz hf hm
    go_enter Try.func27, Try.ntmps27
    go_wp2_with fail
    refine HV.out.mono ?_
    rintro e w1 ⟨rfl, hB⟩
    go_wp2_with fail
    go_ret2
    exact givesRowsBE_nil hB

end Go.Proofs.Ytgoidphamkpmdaa
