/- Size and Clean of the document's side (patches): contracts. -/
import Derived.Test.YtigaklppdlknkaaRd4
import Derived.Test.YtigaklppdlknkaaPtZ
import Derived.Test.YtigaklppdlknkaaEdO
set_option linter.unusedVariables false
set_option linter.unusedSimpArgs false
namespace Go.Proofs.Ytigaklppdlknkaa
open Go.RowKit Tinker

set_option maxRecDepth 100000 in
set_option maxHeartbeats 4000000 in
theorem fields_any (l m : L) (w : World) : Calls Try.prog 86 #[lv l, lv m] w fun e w' => e = .returned (.int .i64 (dsN l m)) ∧ Below w.heap.size w w' := by
  have HB := Lib.hid (show Below w.heap.size w ((w.alloc (.cells #[.int .i64 l.op, .int .i64 l.to, .int .i64 l.a, .int .i64 l.b] 40)).alloc (.cells #[.int .i64 m.op, .int .i64 m.to, .int .i64 m.a, .int .i64 m.b] 40)) from ((Below.refl _ _).alloc (Nat.le_refl _) _).alloc (by simp) _)
  have HD := Lib.hid (show dsN l m = b1 (l.op != m.op) + b1 (l.to != m.to) + b1 (l.a != m.a) + b1 (l.b != m.b) from rfl)
  unfold lv
  cases h0 : (l.op != m.op) <;> cases h1 : (l.to != m.to) <;> cases h2 : (l.a != m.a) <;> cases h3 : (l.b != m.b)
  all_goals rw [h0, h1, h2, h3] at HD
  all_goals go_enter Try.func86, Try.ntmps86
  all_goals go_wp2_with fail
  all_goals go_ret
  all_goals exact ⟨ret_int HD.out.symm, HB.out⟩

theorem sz_take' {ps : List L} {xs : List E} {k : Nat} {e : E} {l : L} (he : xs[k]? = some e) (hl : ps[e.at_.toNat]? = some l) : szL ps (xs.take (k + 1)) = szL ps (xs.take k) + dsN l e.ln := by
  rw [sz_take he hl, dsN_comm]

set_option maxRecDepth 100000 in
set_option maxHeartbeats 2000000 in
theorem rSize_any (a g : Option Addr) (ca cg : Nat) (ps : List L) (xs : List E) (w : World) (hp : LinesAt w a ps) (hx : EditsAt w g xs) (hm : xs.length ≤ 1000) :
    Calls Try.prog 33 #[.slice a ps.length ca, .slice g xs.length cg] w fun e w' => e = .returned (.tuple #[.int .i64 (szR ps xs), .int .i64 (vpx ps xs 0)]) ∧ Below w.heap.size w w' := by
  have HV := Lib.hid (both_any a g ca cg ps xs w hp hx hm)
  by_cases hz : vpx ps xs 0 = 0
  · obtain ⟨h1, h2, h3⟩ := okX_at hz
    have H1 := Lib.hid h1
    have HE := Lib.hid (show szR ps xs = szL ps xs by unfold szR; rw [if_pos hz])
    rw [HE.out, hz]
    rw [hz] at HV
    clear hz h1 HE
    go_enter Try.func33, Try.ntmps33
    go_wp2_with fail
    refine HV.out.mono ?_
    rintro e w1 ⟨rfl, hB⟩
    have HB := Lib.hid hB
    clear hB
    go_wp2_with fail
    go_loopw [7, 8] (fun s7 s8 wr => ∃ k : Nat, k ≤ xs.length ∧ s8 = .int .i64 k ∧ s7 = .int .i64 (szL ps (xs.take k)) ∧ Below w.heap.size w wr) (fun _ s8 _ => xs.length - (intOf s8).toNat)
    case atStart => exact ⟨0, Nat.zero_le _, rfl, rfl, HB.out⟩
    case round =>
      clear HB
      obtain ⟨k, hk, rfl, rfl, hB⟩ := hrel
      by_cases hlt : k < xs.length
      · obtain ⟨b, off, e, rfl, hlb, he, c0, c1, c2, c3, c4⟩ := (hx.below hB (Nat.le_refl _)).at_ hlt
        obtain ⟨a0, a1⟩ := H1.out e (mem_of_get he)
        obtain ⟨b2, off2, l, rfl, hlb2, hl, d0, d1, d2, d3⟩ := (hp.below hB (Nat.le_refl _)).at_ a1
        have a2 : e.at_ < (ps.length : Int) := by omega
        have HS := Lib.hid (sz_take' he hl)
        obtain ⟨n0, n4⟩ := szL_le ps (xs.take k)
        have n5 : szL ps (xs.take k) ≤ 16 := by rw [List.length_take] at n4; omega
        obtain ⟨m0, m4⟩ := dsN_le l e.ln
        have HD := Lib.hid (fun w => fields_any l e.ln w)
        have HB := Lib.hid hB
        unfold lv at HD
        clear he hl hB hx hp n4
        generalize szL ps (xs.take k) = n at HS n0 n5 ⊢
        generalize dsN l e.ln = d at HS HD m0 m4
        go_wp2_with fail
        go_region_with (go_at_call 86; refine (HD.out _).mono ?_; rintro ex w3 ⟨rfl, hB3⟩; have HB3 := Lib.hid (HB.out.drew.trans (hB3.mono HB.out.size)); clear hB3)
        all_goals go_wp2_with fail
        all_goals go_roundw
        all_goals first | exact ⟨k + 1, by omega, by go_num, (by rw [HS.out]; try go_num), HB3.out⟩ | (simp [intOf]; omega)
      · obtain rfl : k = xs.length := by omega
        have HQ := Lib.hid (show szL ps (xs.take xs.length) = szL ps xs by rw [List.take_length])
        have HB := Lib.hid hB
        clear hB
        generalize szL ps (xs.take xs.length) = n at HQ ⊢
        go_wp2_with fail
        go_ret2
        exact ⟨by rw [← HQ.out]; rfl, HB.out⟩
  · have HE := Lib.hid (show szR ps xs = 0 by unfold szR; rw [if_neg hz])
    rw [HE.out]
    generalize vpx ps xs 0 = c at HV hz ⊢
    have hz1 : (c != 0) = true := by simpa using hz
    have hz2 : (c == 0) = false := by simpa using hz
    clear hz HE
    go_enter Try.func33, Try.ntmps33
    go_wp2_with fail
    refine HV.out.mono ?_
    rintro e w1 ⟨rfl, hB⟩
    have HB := Lib.hid hB
    clear hB
    go_wp2_with fail
    go_ret2
    exact ⟨rfl, HB.out⟩

theorem eqL_comm4 (l m : L) : eqL l m = eqL m l := by
  rw [Bool.eq_iff_iff, eqL_iff, eqL_iff]
  exact ⟨fun h => h.symm, fun h => h.symm⟩
theorem cl_yes {ps : List L} {xs : List E} {k : Nat} {e : E} {l : L} (he : xs[k]? = some e) (hl : ps[e.at_.toNat]? = some l) (h : eqL e.ln l = false) : clL ps (xs.take (k + 1)) = clL ps (xs.take k) ++ [e] := by
  unfold clL
  rw [List.take_add_one, he, List.filter_append]
  show _ ++ [e].filter _ = _
  rw [List.filter_cons, lnD_at hl, h]
  rfl
theorem cl_no {ps : List L} {xs : List E} {k : Nat} {e : E} {l : L} (he : xs[k]? = some e) (hl : ps[e.at_.toNat]? = some l) (h : eqL e.ln l = true) : clL ps (xs.take (k + 1)) = clL ps (xs.take k) := by
  unfold clL
  rw [List.take_add_one, he, List.filter_append]
  show _ ++ [e].filter _ = _
  rw [List.filter_cons, lnD_at hl, h]
  show _ ++ [] = _
  rw [List.append_nil]
theorem cl_len (ps : List L) (xs : List E) : (clL ps xs).length ≤ xs.length := by unfold clL; exact List.length_filter_le _ _

set_option maxRecDepth 100000 in
set_option maxHeartbeats 4000000 in
theorem rClean_any (a g : Option Addr) (ca cg : Nat) (ps : List L) (xs : List E) (w : World) (hp : LinesAt w a ps) (hx : EditsAt w g xs) (hm : xs.length ≤ 1000) :
    Calls Try.prog 34 #[.slice a ps.length ca, .slice g xs.length cg] w (GivesEditsE (clR ps xs) (vpx ps xs 0) w) := by
  obtain ⟨i0, hi, hz0, hz1, hz2⟩ := info_parts info_edit
  have HV := Lib.hid (both_any a g ca cg ps xs w hp hx hm)
  by_cases hz : vpx ps xs 0 = 0
  · obtain ⟨h1, h2, h3⟩ := okX_at hz
    have H1 := Lib.hid h1
    have HE := Lib.hid (show clR ps xs = clL ps xs by unfold clR; rw [if_pos hz])
    rw [HE.out, hz]
    rw [hz] at HV
    clear hz h1 HE
    go_enter Try.func34, Try.ntmps34
    go_wp2_with fail
    refine HV.out.mono ?_
    rintro e w1 ⟨rfl, hB⟩
    have HB := Lib.hid hB
    clear hB
    go_wp2_with fail
    go_loopw [7, 8] (fun s7 s8 wr => ∃ k : Nat, k ≤ xs.length ∧ s8 = .int .i64 k ∧ wr.ownsRow w.heap.size 96 5 s7 (clL ps (xs.take k)).length (ec (clL ps (xs.take k))) ∧ Below w.heap.size w wr) (fun _ s8 _ => xs.length - (intOf s8).toNat)
    case atStart => exact ⟨0, Nat.zero_le _, rfl, World.ownsRow_nil _ _ _ _, HB.out⟩
    case round =>
      clear HB
      obtain ⟨k, hk, rfl, hO, hB⟩ := hrel
      by_cases hlt : k < xs.length
      · obtain ⟨b, off, e, rfl, hlb, he, c0, c1, c2, c3, c4⟩ := (hx.below hB (Nat.le_refl _)).at_ hlt
        obtain ⟨a0, a1⟩ := H1.out e (mem_of_get he)
        obtain ⟨b2, off2, l, rfl, hlb2, hl, d0, d1, d2, d3⟩ := (hp.below hB (Nat.le_refl _)).at_ a1
        have a2 : e.at_ < (ps.length : Int) := by omega
        obtain ⟨va, vc, rfl⟩ := own_slice hO
        have hcl := cl_len ps (xs.take k)
        have hcl2 : (clL ps (xs.take k)).length ≤ 4 := by rw [List.length_take] at hcl; omega
        have HO := Lib.hid hO
        have HB := Lib.hid hB
        cases hq : eqL e.ln l
        · have HS := Lib.hid (cl_yes he hl hq)
          have HNE := Lib.hid (ne_facts (l := l) (m := e.ln) (by rw [eqL_comm4]; exact hq))
          have HC := Lib.hid (show wr.cell? ⟨b, off + k * 5, none⟩ = some (.int .i64 e.at_) ∧ wr.cell? ⟨b, off + k * 5 + 1, none⟩ = some (.int .i64 e.ln.op) ∧ wr.cell? ⟨b, off + k * 5 + 2, none⟩ = some (.int .i64 e.ln.to) ∧ wr.cell? ⟨b, off + k * 5 + 3, none⟩ = some (.int .i64 e.ln.a) ∧ wr.cell? ⟨b, off + k * 5 + 4, none⟩ = some (.int .i64 e.ln.b) from ⟨c0, c1, c2, c3, c4⟩)
          clear he hl hO hB hx hp hq hcl
          generalize clL ps (xs.take k) = D at HO HS hcl2 ⊢
          go_upto_region 8 with fail
          go_cut [34] (fun s34 wx => s34 = .bool true ∧ Below wr.heap.size wr wx)
          case first =>
            rcases HNE.out with h1 | ⟨h1, h2⟩ | ⟨h1, h2, h3⟩ | ⟨h1, h2, h3, h4⟩
            all_goals go_quiet (fail)
            all_goals go_wp2_with fail
            all_goals go_meet
            all_goals exact ⟨rfl, rfl, rfl, rfl, Nat.le_refl _, fun _ _ => rfl⟩
          case rest =>
            obtain ⟨rfl, hbd⟩ := hcut
            have HB2 := Lib.hid (HB.out.trans (hbd.mono HB.out.size))
            have HO2 := Lib.hid (own_below HO.out hbd (Nat.le_refl _))
            obtain ⟨y0, y1, y2, y3, y4⟩ := HC.out
            have x0 := (hbd.cell (p := ⟨b, _, none⟩) hlb).trans y0
            have x1 := (hbd.cell (p := ⟨b, _, none⟩) hlb).trans y1
            have x2 := (hbd.cell (p := ⟨b, _, none⟩) hlb).trans y2
            have x3 := (hbd.cell (p := ⟨b, _, none⟩) hlb).trans y3
            have x4 := (hbd.cell (p := ⟨b, _, none⟩) hlb).trans y4
            clear hbd y0 y1 y2 y3 y4 c0 c1 c2 c3 c4 d0 d1 d2 d3 HC HB HO
            go_wp2_with (at_builtin; (refine wpList_append_own _ rfl (.tmp 35) (.tmp 40) 33 rfl w.heap.size 96 i0 (.agg #[.int .i64 0, .int .i64 0, .int .i64 0, .int .i64 0, .int .i64 0]) 5 40 Try.underlying33 hi hz0 hz1 hz2 rfl (by decide) _ D.length (ec D) rfl (own_below HO2.out ((Below.refl _ _).alloc (Nat.le_refl _) _) (Nat.le_refl _)) _ 1 1 (ec [e]) rfl rfl ?c2 (ec_one _) ?c4 ?c5 ?c6 ?_))
            case c2 => exact cells_newE _ e
            case c4 => unfold maxLen; omega
            case c5 => omega
            case c6 => have := HB2.out.size; simp at this ⊢; omega
            intro v3 w3 hown3 hgrow3 _
            have HB3 := Lib.hid ((HB2.out.alloc HB2.out.size (.cells (eV e) 96)).grown hgrow3 (by have := HB2.out.size; simp at this ⊢; omega) (fun q hq => (HO2.out.lt q hq).1))
            have HO3 := Lib.hid (show w3.ownsRow w.heap.size 96 5 v3 (clL ps (xs.take (k + 1))).length (ec (clL ps (xs.take (k + 1)))) by rw [HS.out, ec_append, List.length_append, List.length_singleton]; exact hown3)
            clear hown3 hgrow3 x0 x1 x2 x3 x4
            go_wp2_with fail
            go_roundw
            case rel => exact ⟨k + 1, by omega, by go_num, HO3.out, HB3.out⟩
            case measure => simp [intOf]; omega
        · have HS := Lib.hid (cl_no he hl hq)
          have HLE := Lib.hid (eqL_iff.1 hq)
          have h1 : (l.op == e.ln.op) = true := by rw [HLE.out]; simp
          have h2 : (l.to == e.ln.to) = true := by rw [HLE.out]; simp
          have h3 : (l.a == e.ln.a) = true := by rw [HLE.out]; simp
          have h4 : (l.b == e.ln.b) = true := by rw [HLE.out]; simp
          clear he hl hO hB hx hp hq hcl
          generalize clL ps (xs.take k) = D at HO HS hcl2 ⊢
          go_wp2_with fail
          go_quiet (fail)
          go_wp2_with fail
          go_roundw
          case rel => exact ⟨k + 1, by omega, by go_num, by rw [HS.out]; exact own_below HO.out ⟨rfl, rfl, rfl, Nat.le_refl _, fun _ _ => rfl⟩ (Nat.le_refl _), HB.out.trans ⟨rfl, rfl, rfl, Nat.le_refl _, fun _ _ => rfl⟩⟩
          case measure => simp [intOf]; omega
      · obtain rfl : k = xs.length := by omega
        rw [List.take_length] at hO
        have HO := Lib.hid hO
        have HB := Lib.hid hB
        clear hO hB
        go_wp2_with fail
        go_ret2
        obtain ⟨v1, v2, rfl⟩ := own_slice HO.out
        exact ⟨v1, v2, rfl, HO.out, HB.out⟩
  · have HE := Lib.hid (show clR ps xs = [] by unfold clR; rw [if_neg hz])
    rw [HE.out]
    generalize vpx ps xs 0 = c at HV hz ⊢
    have hz1 : (c != 0) = true := by simpa using hz
    have hz2 : (c == 0) = false := by simpa using hz
    clear hz HE
    go_enter Try.func34, Try.ntmps34
    go_wp2_with fail
    refine HV.out.mono ?_
    rintro e w1 ⟨rfl, hB⟩
    have HB := Lib.hid hB
    clear hB
    go_wp2_with fail
    go_ret2
    exact givesEditsE_nil HB.out

end Go.Proofs.Ytigaklppdlknkaa
