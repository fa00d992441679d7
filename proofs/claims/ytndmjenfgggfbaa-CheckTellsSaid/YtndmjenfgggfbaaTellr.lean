/- Tells of the document's answers: contract. -/
import Derived.Test.YtndmjenfgggfbaaTells
import Derived.Test.YtndmjenfgggfbaaSorted
set_option linter.unusedVariables false
set_option linter.unusedSimpArgs false
namespace Go.Proofs.Ytndmjenfgggfbaa
open Go.RowKit Tinker

set_option maxRecDepth 100000 in
set_option maxHeartbeats 2000000 in
theorem rTells_any (a a2 g : Option Addr) (ca ca2 cap : Nat) (ps qs : List L) (ts : List T) (w : World) (hp : LinesAt w a ps) (hq : LinesAt w a2 qs) (hts : TestsAt w g ts) :
    Calls Try.prog 43 #[.slice a ps.length ca, .slice a2 qs.length ca2, .slice g ts.length cap] w (GivesR (tL ps qs ts) (vpqt ps qs ts) w) := by
  obtain ⟨i0, hi, hz0, hz1, hz2⟩ := info_parts info_int
  have H1 := Lib.hid (fun w hp => rValidate_any a ca ps w hp)
  have H2 := Lib.hid (fun w hq hts => rTested_any a2 g ca2 cap qs ts w hq hts)
  by_cases hv : vp ps = 0
  · have HV := Lib.hid (show vpqt ps qs ts = vpt qs ts by unfold vpqt fe; rw [if_pos hv])
    rw [hv] at H1
    by_cases hz : vpt qs ts = 0
    · obtain ⟨h1, h2⟩ := vpt_ok hz
      obtain ⟨t8, hT⟩ := vts_ok h2
      rw [tL_ok (by rw [HV.out]; exact hz), HV.out, hz]
      rw [hz] at H2
      have hbs : (ts.map fun t => endP ps t.inn t.out != endP qs t.inn t.out).length = ts.length := by simp
      have hget := fun (k : Nat) (t : T) (h : ts[k]? = some t) => show (ts.map fun t => endP ps t.inn t.out != endP qs t.inn t.out)[k]? = some (endP ps t.inn t.out != endP qs t.inn t.out) by rw [List.getElem?_map, h]; rfl
      generalize (ts.map fun t => endP ps t.inn t.out != endP qs t.inn t.out) = bs at hbs hget ⊢
      have HG := Lib.hid hget
      have HBS := Lib.hid hbs
      have HVP := Lib.hid hv
      clear hz hget hbs HV hv
      go_enter Try.func43, Try.ntmps43
      go_wp2_with fail
      refine (H1.out _ hp).mono ?_
      rintro e w1 ⟨rfl, hB⟩
      go_wp2_with fail
      refine (H2.out _ (hq.below hB (Nat.le_refl _)) (hts.below hB (Nat.le_refl _))).mono ?_
      rintro e w2 ⟨rfl, hB2⟩
      have hB := hB.trans (hB2.mono hB.size)
      clear hB2
      go_wp2_with fail
      go_loopw [10, 11] (fun s10 s11 wr => ∃ k : Nat, k ≤ ts.length ∧ s11 = .int .i64 k ∧ wr.ownsRow w.heap.size 3 1 s10 (plcTo bs k).length ((plcTo bs k).map (Value.int .i64)) ∧ Below w.heap.size w wr) (fun _ s11 _ => ts.length - (intOf s11).toNat)
      case atStart => exact ⟨0, Nat.zero_le _, rfl, World.ownsRow_nil _ _ _ _, hB⟩
      case round =>
        clear hB
        obtain ⟨k, hk, rfl, hown, hB⟩ := hrel
        by_cases hlt : k < ts.length
        · obtain ⟨gb, off, t, a', c, rfl, hlb, ht, c0, c1, c2, hi'⟩ := (hts.below hB (Nat.le_refl _)).at_ hlt
          obtain ⟨i1, i2, i3⟩ := isT_ok (hT t (mem_of_get ht))
          obtain ⟨inn, out, want⟩ := t
          have HE := Lib.hid (fun w hp hs => rMade_any a a' ca c ps inn out w hp hs (by unfold vr fe; rw [if_pos HVP.out]; exact i1) i2)
          have HF := Lib.hid (fun w hp hs => rMade_any a2 a' ca2 c qs inn out w hp hs (by unfold vr fe; rw [if_pos h1]; exact i1) i2)
          have hX := HG.out k _ ht
          have HPA := Lib.hid (hp.below hB (Nat.le_refl _))
          have HQA := Lib.hid (hq.below hB (Nat.le_refl _))
          have HII := Lib.hid hi'
          have HO := Lib.hid hown
          simp only at c0 c1 c2 hX
          generalize endP ps inn out = V at HE hX
          generalize endP qs inn out = V2 at HF hX
          have HX := Lib.hid hX
          clear ht hi' hown i1 i2 i3 hts hp hq hX c2
          go_upto_if 53 with fail
          go_cut [53] (fun s53 wx => s53 = .bool (V != V2) ∧ Below wr.heap.size wr wx)
          case first =>
            have hx : Below wr.heap.size wr wr.drew := (Below.refl _ _).drew
            go_region_held3 (fun w' => w'.cell? ⟨gb, off + k * 3, none⟩ = some (.slice a' inn.length c) ∧ w'.cell? ⟨gb, off + k * 3 + 1, none⟩ = some (.int .i64 out)) (first | exact ⟨c0, c1⟩ | go_keep) (first | (go_at_call_of 65 (Value.slice a ps.length ca); refine (HE.out _ ?_ ?_).mono ?_; exact HPA.out.below hx (Nat.le_refl _); exact HII.out.below hx (Nat.le_refl _); rintro e wa ⟨rfl, hBa⟩; replace c0 := (hBa.cell (p := ⟨gb, _, none⟩) (Nat.lt_of_lt_of_le hlb hx.size)).trans c0; replace c1 := (hBa.cell (p := ⟨gb, _, none⟩) (Nat.lt_of_lt_of_le hlb hx.size)).trans c1; replace hx := hx.trans (hBa.mono hx.size); clear hBa) | (go_at_call_of 65 (Value.slice a2 qs.length ca2); refine (HF.out _ ?_ ?_).mono ?_; exact HQA.out.below hx (Nat.le_refl _); exact HII.out.below hx (Nat.le_refl _); rintro e wa ⟨rfl, hBa⟩; replace c0 := (hBa.cell (p := ⟨gb, _, none⟩) (Nat.lt_of_lt_of_le hlb hx.size)).trans c0; replace c1 := (hBa.cell (p := ⟨gb, _, none⟩) (Nat.lt_of_lt_of_le hlb hx.size)).trans c1; replace hx := hx.trans (hBa.mono hx.size); clear hBa))
            all_goals go_wp2_with fail
            all_goals go_meet
            all_goals exact ⟨rfl, hx⟩
          case rest =>
            obtain ⟨rfl, hB2⟩ := hcut
            have hB3 := hB.trans (hB2.mono hB.size)
            have hl := plcTo_length bs k
            have HO2 := Lib.hid (own_below HO.out hB2 (Nat.le_refl _))
            clear hB2 HO c0 c1
            cases hpv : (V != V2)
            · rw [hpv] at HX
              clear hpv
              go_wp2_with fail
              go_roundw
              case rel => exact ⟨k + 1, by omega, by go_num, by rw [plcTo_no HX.out]; exact HO2.out, hB3⟩
              case measure => simp [intOf]; omega
            · rw [hpv] at HX
              clear hpv
              have hown := HO2.out
              clear HO2
              go_wp2_with (at_builtin; refine wpList_append_own _ rfl (.tmp 54) (.tmp 56) 23 rfl w.heap.size 3 i0 (.int .i64 0) 1 8 Try.underlying23 hi hz0 hz1 hz2 rfl (by decide) _ _ _ rfl (hown.alloc _) ⟨wc.heap.size, 0, none⟩ 1 1 [.int .i64 k] rfl rfl ?c1 ?c2 ?c3 ?c4 ?c5 ?_)
              case c1 => exact cell_one_new _ _ _
              case c2 => simp [Value.oneCell']
              case c3 => unfold maxLen; omega
              case c4 => omega
              case c5 => have := hB3.size; simp; omega
              intro v' w3 hown' hgrow _
              have hB4 := (hB3.alloc hB3.size _).grown hgrow (by have := hB3.size; simp; omega) (own_base hown)
              have e : (plcTo bs k).map (Value.int .i64) ++ [.int .i64 k] = (plcTo bs (k + 1)).map (Value.int .i64) := by rw [plcTo_yes HX.out]; simp
              have e2 : (plcTo bs k).length + 1 = (plcTo bs (k + 1)).length := by rw [plcTo_yes HX.out]; simp
              rw [e, e2] at hown'
              have HO := Lib.hid hown'
              clear hown hown' hgrow e e2
              go_wp2_with fail
              go_roundw
              case rel => exact ⟨k + 1, by omega, by go_num, HO.out, hB4⟩
              case measure => simp [intOf]; omega
        · obtain rfl : k = ts.length := by omega
          have hx : plcTo bs ts.length = plc bs := by unfold plc; rw [HBS.out]
          rw [hx] at hown
          obtain ⟨a1, c1, rfl⟩ := own_slice hown
          have HO := Lib.hid hown
          clear hown hx
          go_wp2_with fail
          go_ret2
          exact ⟨a1, c1, rfl, (ints_of_own HO.out).1, hB⟩
    · rw [tL_no (by rw [HV.out]; exact hz), HV.out]
      generalize vpt qs ts = c at H2 hz
      have hz1 : (c != 0) = true := by simpa using hz
      have hz2 : (c == 0) = false := by simpa using hz
      clear hz hv
      go_enter Try.func43, Try.ntmps43
      go_wp2_with fail
      refine (H1.out _ hp).mono ?_
      rintro e w1 ⟨rfl, hB⟩
      go_wp2_with fail
      refine (H2.out _ (hq.below hB (Nat.le_refl _)) (hts.below hB (Nat.le_refl _))).mono ?_
      rintro e w2 ⟨rfl, hB2⟩
      go_wp2_with fail
      go_ret2
      exact givesR_nil (hB.trans (hB2.mono hB.size))
  · have HV : vpqt ps qs ts = vp ps := by unfold vpqt fe; rw [if_neg hv]
    rw [tL_no (by rw [HV]; exact hv), HV]
    clear HV
    generalize vp ps = c at H1 hv
    have hz1 : (c != 0) = true := by simpa using hv
    have hz2 : (c == 0) = false := by simpa using hv
    clear hv
    go_enter Try.func43, Try.ntmps43
    go_wp2_with fail
    refine (H1.out _ hp).mono ?_
    rintro e w1 ⟨rfl, hB⟩
    go_wp2_with fail
    go_ret2
    exact givesR_nil hB

end Go.Proofs.Ytndmjenfgggfbaa
