/- BlameLeast: the walk. -/
import Derived.Test.YtgoidphamkpmdaaBlI
import Derived.Test.YtgoidphamkpmdaaBks
import Derived.Test.YtgoidphamkpmdaaLso
import Derived.Test.YtgoidphamkpmdaaOpen6
import Derived.Test.YtgoidphamkpmdaaStC
set_option linter.unusedVariables false
set_option linter.unusedSimpArgs false
namespace Go.Proofs.Ytgoidphamkpmdaa
open Go.RowKit Tinker

theorem lst_blk {f : List (List Int)} (h : vfam f = 0) : vfam (lstL f) = 0 ∧ blkL (lstL f) = blkL f := by
  have hlt := fmM_lt (vfam_ok h).2
  have h1 : vfam (lstL f) = 0 := by rw [lstL_ok h]; exact vfam_nums (fun m hm => least_lt hm) (least_len hlt)
  refine ⟨h1, ?_⟩
  rw [blkL_ok h1, blkL_ok h, lstL_ok h, fmM_nums (fun m hm => least_lt hm), blk_least hlt]
theorem RowsO.pokZ {base : Nat} {w W : World} {a : Option Addr} {fs : List (List Int)} (h : RowsO base W a fs) (hB : Below base w W) :
    ∃ (M : Nat) (xs : List Value) (t : TypeId), (fs ≠ [] → a = some ⟨M, 0, none⟩) ∧ Below base w W ∧ (fs = [] ∨ PokI base M xs t (fs.map List.length) w W) := by
  rcases h with h | ⟨M, xs, t, e, hb, hM, hc⟩
  · exact ⟨0, [], 3, fun h1 => absurd h h1, hB, .inl h⟩
  · exact ⟨M, xs, t, fun _ => e, hB, .inr (RowsO.poke hb hM hc hB)⟩
theorem cs_get {cs : Array Value} {m : Nat} (h : m < cs.size) : ∃ v, cs[m]? = some v := ⟨cs[m], by simp [h]⟩

set_option maxRecDepth 100000 in
set_option maxHeartbeats 8000000 in
theorem blameLeast_walk (a : Option Addr) (ca : Nat) (f : List (List Int)) (w : World) (hf : RowsN w a f) (hc0 : a = none → ca = 0) :
    Calls Try.prog 6 #[.slice a f.length ca] w fun e w' => e = .returned (.bool true) ∧ Below w.heap.size w w' := by
  clear hc0
  obtain ⟨i0, hii, hz0, hz1, hz2⟩ := info_parts info_int
  obtain ⟨j0, hj, jz0, jz1, jz2⟩ := info_parts info_ints
  have HL := Lib.hid (long3_any a ca f w hf.at_)
  have HK := Lib.hid (fun w => known3_true w)
  cases hl : longF f
  · rw [hl] at HL
    obtain ⟨hm0, hm⟩ := longF_no hl
    have C1 := Lib.hid (fun w hf => Blocker_any a ca f w hf hm)
    have C2 := Lib.hid (fun w hf => rLeast_any a ca f w hf hm)
    have C3 := Lib.hid (fun b cb w hf => Least_own b cb f w hf hm)
    have hX1 := blkL_len f
    have hX2 := fun z h => blkL_small (f := f) (z := z) h
    have hY1 := lstL_len f
    have hY2 := fun z h => lstL_small (f := f) (z := z) h
    have C4 := Lib.hid (fun b cb w h => Blocker_any b cb (lstL f) w h (fun z hz => by have := hY2 z hz; omega))
    have S0 := Lib.hid (fun a' b' c' d' w h1 h2 => sameLists_self f.length a' b' c' d' f w rfl h1 h2 (by omega) hm)
    have S1 := Lib.hid (fun a' b' c' d' w h1 h2 => sameLists_self (lstL f).length a' b' c' d' (lstL f) w rfl h1 h2 (by omega) (fun z hz => by have := hY2 z hz; omega))
    have S2 := Lib.hid (fun a' b' c' d' w h1 h2 => sameLists_self (blkL f).length a' b' c' d' (blkL f) w rfl h1 h2 (by omega) (fun z hz => by have := hX2 z hz; omega))
    have HE := Lib.hid (fun h => lst_blk (f := f) h)
    have HY := Lib.hid hY2
    have HF := Lib.hid hf
    have HMM := Lib.hid hm
    generalize vfam (lstL f) = v2 at C4 HE
    generalize blkL (lstL f) = X2 at C4 HE
    generalize blkL f = X at C1 S2 HE
    generalize lstL f = Y at C2 C3 C4 S1 HY hY1
    generalize vfam f = v at C1 C2 C3 HE
    clear hf hl hm hX1 hX2 hY2
    go_enter Try.func6, Try.ntmps6
    go_wp2_with fail
    refine HL.out.mono ?_
    rintro e w1 ⟨rfl, rfl⟩
    clear HL
    go_wp2_with fail
    go_loopw [3, 4] (fun s3 s4 wr => ∃ (k : Nat) (xs : List Value), k ≤ f.length ∧ s4 = .int .i64 k ∧ RowsI w s3 (f.take k) xs wr) (fun _ s4 _ => f.length - (intOf s4).toNat)
    case atStart => exact ⟨0, [], Nat.zero_le _, rfl, RowsI.nil (Below.refl _ _)⟩
    case round =>
      obtain ⟨k, xs, hk, rfl, hJ⟩ := hrel
      by_cases hlt : k < f.length
      · obtain ⟨b, off, zs, a', c', ea, hlb, hzs, x0, hI, hn⟩ := (HF.out.below hJ.below (Nat.le_refl _)).get hlt
        subst ea
        have HTS := Lib.hid (show f.take (k + 1) = f.take k ++ [zs] by rw [List.take_add_one, hzs]; rfl)
        have hzl := HMM.out zs (mem_of_get hzs)
        have HPK := Lib.hid (show (f.take k).length + 1 ≤ 1000 by rw [List.length_take]; omega)
        have HAP := Lib.hid (show ∀ b, wr.heap.size ≤ b → u3.ownBlock ≠ some b from fun b hb e => by have := own_val_lt hJ.out e; omega)
        have hws := hJ.below.size
        have HJ := Lib.hid hJ
        have hown0 := World.ownsRow_lit (base := wr.heap.size) (e := 3) (size := 1) wr #[] 0 (Nat.le_refl _) (by simp [maxLen]) (by simp)
        clear hJ hzs C1 C2 C3 C4 S0 S1 S2 HE HY
        cases a' with
        | none =>
          have hz := hI.none
          subst hz
          have hc := hn rfl
          subst hc
          clear hn hI
          have hal : Below wr.heap.size wr ((wr.alloc (.cells #[] 3)).alloc (.cells #[.slice (some ⟨wr.heap.size, 0, none⟩) 0 0] 23)) := ((Below.refl _ _).alloc (Nat.le_refl _) _).alloc (by simp) _
          have HR3 := Lib.hid (HJ.out.low hal)
          have HC1 := Lib.hid (cell_one_new (wr.alloc (.cells #[] 3)) (.slice (some ⟨wr.heap.size, 0, none⟩) 0 0) 23)
          clear hal
          clear hown0
          go_wp2_with (at_builtin; (refine wpList_append_own_at _ rfl (.tmp 25) (.tmp 32) 22 rfl w.heap.size 23 j0 (.slice none 0 0) 1 24 Try.underlying22 hj jz0 jz1 jz2 rfl (by decide) _ _ xs rfl HR3.out.out ⟨wr.heap.size + 1, 0, none⟩ 1 1 [.slice (some ⟨wr.heap.size, 0, none⟩) 0 0] rfl ?q1 ?q2 ?q3 ?q4 ?q5 ?q6 ?_))
          case q1 => rfl
          case q2 =>
            have h := HC1.out
            rw [show (wr.alloc (.cells #[] 3)).heap.size = wr.heap.size + 1 by simp] at h
            exact h
          case q3 => simp [Value.oneCell']
          case q4 => unfold maxLen; have := HPK.out; simp only [List.length_append, List.length_take] at this ⊢; omega
          case q5 => have := HPK.out; simp only [List.length_append, List.length_take] at this ⊢; omega
          case q6 => simp; omega
          intro v3 w3 hown3 hgrow3 _ hat3
          have hP := HR3.out.push (a := some ⟨wr.heap.size, 0, none⟩) (c := 0) (zs := []) (.inl rfl) (by rw [List.length_take, Nat.min_eq_left hk]; exact hown3) hgrow3 (by simpa using hat3)
          rw [← HTS.out] at hP
          have HP := Lib.hid hP
          clear hown3 hgrow3 hat3 hP
          go_wp2_with fail
          go_roundw
          case rel => exact ⟨k + 1, _, by omega, by go_num, HP.out⟩
          case measure => simp [intOf]; omega
        | some q =>
          have HCL := Lib.hid hI.cells
          clear hn hI
          go_wp2_with (at_builtin; (refine wpList_append_own _ rfl (.tmp 26) (.tmp 30) 23 rfl wr.heap.size 3 i0 (.int .i64 0) 1 8 Try.underlying23 hii hz0 hz1 hz2 rfl (by decide) _ 0 [] rfl hown0 q zs.length c' (zs.map (Value.int .i64)) rfl ?c1 ?c2 ?c3 ?c4 ?c5 ?c6 ?_))
          case c2 => exact fun j z hz => cell_alloc_keep (HCL.out j (.int .i64 z) (by simp [hz]))
          case c3 => simp [Value.oneCell']
          case c4 => simp [maxLen]; omega
          case c5 => omega
          intro v' w2 hown1 hgrow _
          have hB2 : Below wr.heap.size wr w2 := ((Below.refl _ _).alloc (Nat.le_refl _) _).grown hgrow (by simp) (by rintro k hk; simp [Value.ownBlock] at hk; omega)
          have hown2' : w2.ownsRow wr.heap.size 3 1 v' zs.length (zs.map (Value.int .i64)) := by simpa using hown1
          obtain ⟨a2, k2, rfl⟩ := own_slice hown2'
          have hJ2 := HJ.out.low hB2
          have hal : Below w2.heap.size w2 (w2.alloc (.cells #[.slice a2 zs.length k2] 23)) := (Below.refl _ _).alloc (Nat.le_refl _) _
          have hOL := (((ownL_of hown2').apart (o := u3.ownBlock) (fun b hb => HAP.out b hb)).wide hws).low hal
          have HR3 := Lib.hid (hJ2.low hal)
          have hs2 := hB2.size
          have HOL := Lib.hid hOL
          clear hown0 hown1 hown2' hgrow hJ2 hal hOL hB2
          go_wp2_with (at_builtin; (refine wpList_append_own_at _ rfl (.tmp 25) (.tmp 32) 22 rfl w.heap.size 23 j0 (.slice none 0 0) 1 24 Try.underlying22 hj jz0 jz1 jz2 rfl (by decide) _ _ xs rfl HR3.out.out ⟨w2.heap.size, 0, none⟩ 1 1 [.slice a2 zs.length k2] rfl ?d1 ?d2 ?d3 ?d4 ?d5 ?d6 ?_))
          case d1 => rfl
          case d2 => exact cell_one_new _ _ _
          case d3 => simp [Value.oneCell']
          case d4 => unfold maxLen; have := HPK.out; simp only [List.length_append, List.length_take] at this ⊢; omega
          case d5 => have := HPK.out; simp only [List.length_append, List.length_take] at this ⊢; omega
          case d6 => simp; omega
          intro v3 w3 hown3 hgrow3 _ hat3
          have hP := HR3.out.push (c := k2) HOL.out (by rw [List.length_take, Nat.min_eq_left hk]; exact hown3) hgrow3 (by simpa using hat3)
          rw [← HTS.out] at hP
          have HP := Lib.hid hP
          clear hown3 hgrow3 hat3 hP
          go_wp2_with fail
          go_roundw
          case rel => exact ⟨k + 1, _, by omega, by go_num, HP.out⟩
          case measure => simp [intOf]; omega
      · obtain rfl : k = f.length := by omega
        rw [List.take_of_length_le (Nat.le_refl _)] at hJ
        obtain ⟨va, vc, rfl⟩ := own_slice hJ.out
        have R0 := Lib.hid hJ.at_.1
        have HB0 := Lib.hid hJ.below
        clear hJ
        obtain ⟨W0, hW0⟩ : ∃ W0 : World, W0 = wr := ⟨wr, rfl⟩
        subst hW0
        go_wp2_with fail
        refine (C3.out _ _ _ R0.out).mono ?_
        rintro e w2 ⟨a2, c2, rfl, h2, hB2⟩
        have HO2 := Lib.hid h2
        have HB2 := Lib.hid hB2
        have HBw := Lib.hid (HB0.out.trans (hB2.mono HB0.out.size))
        clear h2 hB2
        go_wp2_with fail
        refine (C2.out _ (HF.out.at_.below HBw.out (Nat.le_refl _))).mono ?_
        rintro e w3 ⟨a3, c3, rfl, h3, hB3⟩
        have HO2 := Lib.hid (HO2.out.below hB3)
        have R3 := Lib.hid h3.at_
        have HB3 := Lib.hid (HB2.out.trans (hB3.mono HB2.out.size))
        clear h3 hB3
        go_wp2_with fail
        refine (S1.out _ _ _ _ _ HO2.out.at_ R3.out).mono ?_
        rintro e w4 ⟨rfl, hB4⟩
        have HO2 := Lib.hid (HO2.out.below hB4)
        have HB4 := Lib.hid (HB3.out.trans (hB4.mono HB3.out.size))
        have HBw := Lib.hid (HB0.out.trans (HB4.out.mono HB0.out.size))
        clear hB4
        go_wp2_with fail
        refine (C1.out _ (HF.out.at_.below HBw.out (Nat.le_refl _))).mono ?_
        rintro e w5 ⟨a5, c5, rfl, h5, hB5⟩
        have HO2 := Lib.hid (HO2.out.below hB5)
        have R5 := Lib.hid h5.at_
        have HB5 := Lib.hid (HB4.out.trans (hB5.mono HB4.out.size))
        clear h5 hB5
        go_wp2_with fail
        refine (C4.out _ _ _ HO2.out.at_).mono ?_
        rintro e w6 ⟨a6, c6, rfl, h6, hB6⟩
        have HO2 := Lib.hid (HO2.out.below hB6)
        have R5 := Lib.hid (R5.out.below hB6 (Nat.le_refl _))
        have R6 := Lib.hid h6.at_
        have HB6 := Lib.hid (HB5.out.trans (hB6.mono HB5.out.size))
        clear h6 hB6
        go_upto_region 14 with fail
        go_cut [13] (fun s13 wc => s13 = .bool true ∧ RowsO W0.heap.size wc a2 Y ∧ Below W0.heap.size W0 wc)
        case first =>
          by_cases hv : v = 0
          · obtain ⟨rfl, rfl⟩ := HE.out hv
            subst hv
            go_wp2_with fail
            refine (S2.out _ _ _ _ _ R5.out R6.out).mono ?_
            rintro e w7 ⟨rfl, hB7⟩
            have HO2 := Lib.hid (HO2.out.below hB7)
            have HB7 := Lib.hid (HB6.out.trans (hB7.mono HB6.out.size))
            clear hB7
            go_wp2_with fail
            go_meet
            exact ⟨rfl, HO2.out, HB7.out⟩
          · have hz1 : (v != 0) = true := by simpa using hv
            have hz2 : (v == 0) = false := by simpa using hv
            clear hv
            go_wp2_with fail
            go_meet
            exact ⟨rfl, HO2.out, HB6.out⟩
        case rest =>
          obtain ⟨rfl, h7, hB7⟩ := hcut
          obtain ⟨M, xs, t, hMe, hBb, hP⟩ := h7.pokZ hB7
          have HMe := Lib.hid hMe
          have HBb := Lib.hid hBb
          have HP0 := Lib.hid hP
          clear h7 hB7 hMe hBb hP HO2 R3 R5 R6 HB6 HB5 HB4 HB3 HB2 C1 C2 C3 C4 S1 S2 HE
          go_wp2_with fail
          go_loopw [14] (fun s14 wx => ∃ k : Nat, k ≤ Y.length ∧ s14 = .int .i64 k ∧ Below W0.heap.size W0 wx ∧ (Y = [] ∨ PokI W0.heap.size M xs t (Y.map List.length) W0 wx)) (fun s14 _ => Y.length - (intOf s14).toNat)
          case atStart => exact ⟨0, Nat.zero_le _, rfl, HBb.out, HP0.out⟩
          case round =>
            obtain ⟨k, hk, rfl, hBk, hPk⟩ := hrel
            have HBk := Lib.hid hBk
            have HPk := Lib.hid hPk
            clear hBk hPk HBb HP0
            by_cases hlk : k < Y.length
            · have hne : Y ≠ [] := by rintro rfl; simp at hlk
              obtain rfl := HMe.out hne
              have hP := HPk.out.resolve_left hne
              obtain ⟨zs, hzs⟩ := get_of_lt hlk
              obtain ⟨a', c', hx, hrow⟩ := hP.st k zs.length (by rw [List.getElem?_map, hzs]; rfl)
              have hz8 := HY.out zs (mem_of_get hzs)
              have x0 := hp_cell hP.bm (j := k) (by simpa using hx)
              have HP := Lib.hid hP
              have HROW := Lib.hid hrow
              have HXK := Lib.hid hx
              have HZS := Lib.hid hzs
              clear hP hrow hx hzs hne HMe HPk
              have HN := Lib.hid (show (Y.map List.length)[k]? = some zs.length by rw [List.getElem?_map, HZS.out]; rfl)
              generalize zs.length = n at x0 HROW HXK hz8 HN
              go_wp2_with fail
              go_loopw [15] (fun s15 wy => ∃ m : Nat, m ≤ n ∧ s15 = .int .i64 m ∧ PokI W0.heap.size M xs t (Y.map List.length) W0 wy) (fun s15 _ => n - (intOf s15).toNat)
              case atStart => exact ⟨0, Nat.zero_le _, rfl, HP.out⟩
              case round =>
                clear HP x0
                obtain ⟨m, hmn, rfl, hQ⟩ := hrel
                have x0 := hp_cell hQ.bm (j := k) (by simpa using HXK.out)
                have HQ := Lib.hid hQ
                by_cases hlm : m < n
                · obtain ⟨a2', c2', hx2, hrow2⟩ := hQ.st k n HN.out
                  rw [HXK.out] at hx2
                  injection hx2 with hx2
                  injection hx2 with e1 e2 e3
                  subst e1 e3
                  obtain ⟨b, cs, t', rfl, hbb, hbM, hcs, hns⟩ := hrow2.resolve_left (by omega)
                  obtain ⟨v0, hv0⟩ := cs_get (show m < cs.size by omega)
                  have m1 := hp_cell hcs hv0
                  have m2 := hp_free hcs m
                  have HPP := Lib.hid (HQ.out.put hbb hbM m (.int .i64 (-1)))
                  clear hQ hv0 hcs hns hbM
                  go_wp2_with fail
                  go_roundw
                  case rel => exact ⟨m + 1, by omega, by go_num, HPP.out⟩
                  case measure => simp [intOf]; omega
                · obtain rfl : m = n := by omega
                  clear hQ
                  go_wp2_with fail
                  go_roundw
                  case rel => exact ⟨k + 1, by omega, by go_num, HQ.out.below, .inr HQ.out⟩
                  case measure => simp [intOf]; omega
            · obtain rfl : k = Y.length := by omega
              have R0 := Lib.hid (R0.out.below HBk.out (Nat.le_refl _))
              have HBw := Lib.hid (HB0.out.trans (HBk.out.mono HB0.out.size))
              clear HPk HMe
              go_wp2_with fail
              refine (S0.out _ _ _ _ _ R0.out (HF.out.at_.below HBw.out (Nat.le_refl _))).mono ?_
              rintro e w8 ⟨rfl, hB8⟩
              have HB8 := Lib.hid (HBw.out.trans (hB8.mono HBw.out.size))
              clear hB8
              go_wp2_with fail
              refine (HK.out _).mono ?_
              rintro e w9 ⟨rfl, hB⟩
              go_wp2_with fail
              go_ret
              exact ⟨rfl, HB8.out.trans (hB.mono HB8.out.size)⟩
  · rw [hl] at HL
    clear hf hl
    go_enter Try.func6, Try.ntmps6
    go_wp2_with fail
    refine HL.out.mono ?_
    rintro e w1 ⟨rfl, rfl⟩
    go_wp2_with fail
    refine (HK.out _).mono ?_
    rintro e w2 ⟨rfl, hB⟩
    go_wp2_with fail
    go_ret
    exact ⟨rfl, hB⟩

end Go.Proofs.Ytgoidphamkpmdaa
