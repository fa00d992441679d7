/- SuiteThins: the walk. -/
import Derived.Test.YtmigkbimdjiigaaSuR
import Derived.Test.YtmigkbimdjiigaaSvC
import Derived.Test.YtmigkbimdjiigaaSuU
set_option linter.unusedVariables false
set_option linter.unusedSimpArgs false
namespace Go.Proofs.Ytmigkbimdjiigaa
open Go.RowKit Tinker
/-- An own list of rows that lie in an older world. -/
structure LessI (w : World) (v : Value) (fs : List (List Int)) (xs : List Value) (W : World) : Prop where
  out : W.ownsRow w.heap.size 23 1 v fs.length xs
  st : ∀ (j : Nat) (z : List Int), fs[j]? = some z → ∃ (a : Option Addr) (c : Nat), xs[j]? = some (Value.slice a z.length c) ∧ IntsAt w a z
  below : Below w.heap.size w W
theorem LessI.push {w W W3 : World} {v v' : Value} {fs : List (List Int)} {xs : List Value} {a : Option Addr} {c : Nat} {z : List Int} {o : Obj} (h : LessI w v fs xs W) (hz : IntsAt w a z)
    (hown : W3.ownsRow w.heap.size 23 1 v' (fs.length + 1) (xs ++ [.slice a z.length c])) (hg : (W.alloc o).grownBy W3 v.ownBlock) : LessI w v' (fs ++ [z]) (xs ++ [.slice a z.length c]) W3 := by
  have hx : xs.length = fs.length := by simpa using h.out.1
  refine ⟨by simpa using hown, fun j y hj => ?_, (h.below.alloc h.below.size _).grown hg (by have := h.below.size; simp; omega) (own_base h.out)⟩
  rcases Nat.lt_or_ge j fs.length with hlt | hge
  · rw [List.getElem?_append_left hlt] at hj
    obtain ⟨a', c', e, hi⟩ := h.st j y hj
    exact ⟨a', c', by rw [List.getElem?_append_left (by omega)]; exact e, hi⟩
  · rw [List.getElem?_append_right hge] at hj
    have h0 : j - fs.length = 0 := by
      rcases Nat.eq_zero_or_pos (j - fs.length) with h0 | h0
      · exact h0
      · rw [List.getElem?_eq_none (by simp; omega)] at hj; cases hj
    rw [h0] at hj
    injection hj with hj
    subst hj
    exact ⟨a, c, by rw [List.getElem?_append_right (by omega), show j - xs.length = 0 by omega]; rfl, hz⟩
theorem LessI.at_ {w W : World} {a : Option Addr} {n c : Nat} {fs : List (List Int)} {xs : List Value} (h : LessI w (.slice a n c) fs xs W) : RowsAt W a fs ∧ n = fs.length := by
  have ho := h.out
  have hn : n = fs.length := by
    rcases ho.2 with ⟨he, hx⟩ | ⟨g, cap, cur, he, _⟩
    · injection he with _ h1 _
      have := ho.1
      rw [hx] at this
      simp at this
      omega
    · injection he with _ h1 _
  subst hn
  refine ⟨?_, rfl⟩
  rcases Nat.eq_zero_or_pos fs.length with h0 | h0
  · exact .inl (List.eq_nil_of_length_eq_zero h0)
  · obtain ⟨g, rfl⟩ := own_form ho h0
    refine .inr ⟨g, 0, rfl, own_lt ho, fun j z hj => ?_⟩
    obtain ⟨a', c', e, hi⟩ := h.st j z hj
    exact ⟨a', c', by rw [Nat.zero_add]; exact own_cell ho e, hi.below h.below (Nat.le_refl _)⟩
end Go.Proofs.Ytmigkbimdjiigaa
namespace Go.Proofs.Ytmigkbimdjiigaa
open Go.RowKit Tinker

set_option maxRecDepth 100000 in
set_option maxHeartbeats 8000000 in
theorem suiteThins_walk (a : Option Addr) (ca : Nat) (t : List (List Int)) (w : World) (ht : RowsAt w a t) (hc : a = none → ca = 0) (hml : t.length ≤ maxLen) :
    Calls Try.prog 9 #[.slice a t.length ca] w fun e w' => e = .returned (.bool true) ∧ Below w.heap.size w w' := by
  have HK := Lib.hid (fun w => sane8_true w)
  have HL := Lib.hid (fun w ht => long8_any a ca t w ht hml)
  have HT := Lib.hid ht
  cases hl : lng8 t
  · obtain ⟨hl50, hm0⟩ := lng8_no hl
    have hm : ∀ x ∈ t, x.length ≤ 1000 := fun x hx => by have := hm0 x hx; omega
    rw [hl] at HL
    have C1 := Lib.hid (fun w h => sNeedless_any a ca t w h (by omega) hm)
    have C2 := Lib.hid (fun w h => sCover_any a ca t w h (by omega) hm)
    clear ht hc hml hl hm0
    by_cases hv : vsu t = 0
    · obtain ⟨hl8, _, _⟩ := vsu_ok hv
      obtain ⟨f1, f2, f3⟩ := thin_facts hv
      obtain ⟨j0, hjj, jz0, jz1, jz2⟩ := info_parts info_ints
      have hul := lessTo_len t t.length
      have hum : ∀ z ∈ lessTo t t.length, z.length ≤ 1000 := fun z hz => by
        obtain ⟨j, hj⟩ := List.getElem?_of_mem hz
        obtain ⟨r, _, _, hr⟩ := less_at (List.getElem?_eq_some_iff.1 hj).1
        exact hm z (List.mem_of_getElem? (hr.symm.trans hj))
      have C3 := Lib.hid (fun a' c' w h => by
        have h9 := sCover_any a' c' (lessTo t t.length) w h (by omega) hum
        unfold coverL at h9
        rw [f1, if_pos rfl] at h9
        exact h9)
      have C4 := Lib.hid (fun w h => by
        have h9 := sOpen_any a ca t w h (by omega) hm
        rw [hv, if_pos rfl] at h9
        exact h9)
      have C5 := Lib.hid (fun a' c' w h => by
        have h9 := sOpen_any a' c' (lessTo t t.length) w h (by omega) hum
        rw [f1, if_pos rfl, f2] at h9
        exact h9)
      have C1 := C1.out
      have C2 := C2.out
      unfold coverL at C2
      rw [hv] at C1 C2
      simp only [if_pos] at C1 C2
      have C1 := Lib.hid C1
      have C2 := Lib.hid C2
      have hq1 : (nedL (tblM t)).length ≤ 1000 := Nat.le_trans (plcR_len _ _) (by rw [tblM_len]; omega)
      have HH := Lib.hid (fun b' c' n w hz => lHas8_any b' c' (nedL (tblM t)) n w hz hq1)
      have HNH := Lib.hid (fun k (hk : k < t.length) => show hasB (nedL (tblM t)) (k : Int) = nedB (tblM t) k from ned_has (by rw [tblM_len]; exact hk))
      have hq4 := szK_le (openM (tblM t))
      unfold szK at hq4 f3
      have e5 : (((numsK (covM (tblM t))).length : Int) == ((numsK (covM (tblM (lessTo t t.length)))).length : Int)) = true := by rw [f3]; simp
      generalize numsK (openM (tblM t)) = q4 at *
      have S1 := Lib.hid (fun a' b' c' d' w h1 h2 => sameI8_self q4.length a' b' c' d' q4 w rfl h1 h2 (by omega))
      generalize numsK (covM (tblM t)) = q2 at *
      generalize numsK (covM (tblM (lessTo t t.length))) = q3 at *
      generalize nedL (tblM t) = q1 at *
      clear hv f1 f2 f3 hm hq1 hum hul
      go_enter Try.func9, Try.ntmps9
      go_wp2_with fail
      refine (HL.out _ HT.out).mono ?_
      rintro e w0 ⟨rfl, rfl⟩
      go_wp2_with fail
      refine (C1.out _ HT.out).mono ?_
      rintro e w1 ⟨a1, c1, rfl, ho, hB⟩
      have HB := Lib.hid hB
      have I1 := Lib.hid ((ints_of_own ho).1)
      clear hB ho
      go_wp2_with fail
      refine (C2.out _ (HT.out.below HB.out (Nat.le_refl _))).mono ?_
      rintro e w2 ⟨a2, c2, rfl, ho, hB⟩
      have I1 := Lib.hid (I1.out.below hB (Nat.le_refl _))
      have HB := Lib.hid (HB.out.trans (hB.mono HB.out.size))
      have I2 := Lib.hid ((ints_of_own ho).1)
      clear hB ho
      have HTW := Lib.hid (HT.out.below HB.out (Nat.le_refl _))
      obtain ⟨W1, hW1⟩ : ∃ W, W = w2 := ⟨_, rfl⟩
      subst hW1
      go_wp2_with fail
      go_loopw [7, 8] (fun s7 s8 wr => ∃ (k : Nat) (xs : List Value), k ≤ t.length ∧ s8 = .int .i64 k ∧ LessI W1 s7 (lessTo t k) xs wr) (fun _ s8 _ => t.length - (intOf s8).toNat)
      case atStart => exact ⟨0, [], Nat.zero_le _, rfl, ⟨World.ownsRow_nil _ _ _ _, fun j z hj => (by simp [lessTo] at hj), Below.refl _ _⟩⟩
      case round =>
        obtain ⟨k, xs, hk, rfl, hI⟩ := hrel
        obtain ⟨av, cv, rfl⟩ := own_slice hI.out
        have hls := lessTo_len t k
        have HBX := Lib.hid hI.below
        by_cases hlt : k < t.length
        · have HHX := Lib.hid (HH.out a1 c1 (k : Int) wr (I1.out.below HBX.out (Nat.le_refl _)))
          have HHN := Lib.hid (HNH.out k hlt)
          cases hn : nedB (tblM t) k
          · have HE := Lib.hid (fun z h => lessTo_yes (t := t) (k := k) (z := z) hn h)
            rw [HHN.out, hn] at HHX
            clear hn
            obtain ⟨b3, off3, z, a3, c3, rfl, hlb3, hz, d3, hi3⟩ := HTW.out.at_ hlt
            have d3 := (HBX.out.cell (p := ⟨b3, off3 + k, none⟩) hlb3).trans d3
            have HEZ := Lib.hid (HE.out z hz)
            clear hz
            go_wp2_with fail
            refine HHX.out.mono ?_
            rintro e w0 ⟨rfl, rfl⟩
            go_wp2_with (at_builtin; refine wpList_append_own _ rfl (.tmp 50) (.tmp 55) 22 rfl W1.heap.size 23 j0 (.slice none 0 0) 1 24 Try.underlying22 hjj jz0 jz1 jz2 rfl (by decide) _ _ _ rfl (hI.out.alloc _) ⟨wr.heap.size, 0, none⟩ 1 1 [.slice a3 z.length c3] rfl rfl ?c1 ?c2 ?c3 ?c4 ?c5 ?_)
            try (case c1 => exact cell_one_new _ _ _)
            case c2 => simp [Value.oneCell']
            case c3 => unfold maxLen; omega
            case c4 => omega
            case c5 => have := HBX.out.size; simp; omega
            intro v' w9 hown' hgrow _
            have HP := Lib.hid (hI.push hi3 hown' hgrow)
            rw [← HEZ.out] at HP
            clear hI hi3 hown' hgrow
            go_wp2_with fail
            go_roundw
            case rel => exact ⟨k + 1, _, by omega, by go_num, HP.out⟩
            case measure => simp [intOf]; omega
          · have HE := Lib.hid (lessTo_no (t := t) (k := k) hn)
            rw [HHN.out, hn] at HHX
            have HI := Lib.hid hI
            clear hn hI
            go_wp2_with fail
            refine HHX.out.mono ?_
            rintro e w0 ⟨rfl, rfl⟩
            go_wp2_with fail
            go_roundw
            case rel => exact ⟨k + 1, _, by omega, by go_num, by rw [HE.out]; exact HI.out⟩
            case measure => simp [intOf]; omega
        · obtain rfl : k = t.length := by omega
          have IL := Lib.hid hI.at_.1
          have hB := hI.below
          have I2 := Lib.hid (I2.out.below hB (Nat.le_refl _))
          have HB := Lib.hid (HB.out.trans (hB.mono HB.out.size))
          clear hI hB HBX hls
          generalize lessTo t t.length = u at *
          go_wp2_with fail
          refine (C3.out _ _ _ IL.out).mono ?_
          rintro e w13 ⟨a3, c3, rfl, ho, hB⟩
          have I2 := Lib.hid (I2.out.below hB (Nat.le_refl _))
          have IL := Lib.hid (IL.out.below hB (Nat.le_refl _))
          have HB := Lib.hid (HB.out.trans (hB.mono HB.out.size))
          have I3 := Lib.hid ((ints_of_own ho).1)
          clear hB ho
          go_wp2_with fail
          refine (C4.out _ (HT.out.below HB.out (Nat.le_refl _))).mono ?_
          rintro e w14 ⟨a4, c4, rfl, ho, hB⟩
          have I2 := Lib.hid (I2.out.below hB (Nat.le_refl _))
          have IL := Lib.hid (IL.out.below hB (Nat.le_refl _))
          have I3 := Lib.hid (I3.out.below hB (Nat.le_refl _))
          have HB := Lib.hid (HB.out.trans (hB.mono HB.out.size))
          have I4 := Lib.hid ((ints_of_own ho).1)
          clear hB ho
          go_wp2_with fail
          refine (C5.out _ _ _ IL.out).mono ?_
          rintro e w15 ⟨a5, c5, rfl, ho, hB⟩
          have I2 := Lib.hid (I2.out.below hB (Nat.le_refl _))
          have IL := Lib.hid (IL.out.below hB (Nat.le_refl _))
          have I3 := Lib.hid (I3.out.below hB (Nat.le_refl _))
          have I4 := Lib.hid (I4.out.below hB (Nat.le_refl _))
          have HB := Lib.hid (HB.out.trans (hB.mono HB.out.size))
          have I5 := Lib.hid ((ints_of_own ho).1)
          clear hB ho
          go_wp2_with fail
          refine (S1.out _ _ _ _ _ I4.out I5.out).mono ?_
          rintro e w16 ⟨rfl, hB⟩
          have I2 := Lib.hid (I2.out.below hB (Nat.le_refl _))
          have IL := Lib.hid (IL.out.below hB (Nat.le_refl _))
          have I3 := Lib.hid (I3.out.below hB (Nat.le_refl _))
          have I4 := Lib.hid (I4.out.below hB (Nat.le_refl _))
          have I5 := Lib.hid (I5.out.below hB (Nat.le_refl _))
          have HB := Lib.hid (HB.out.trans (hB.mono HB.out.size))
          clear hB
          go_wp2_with fail
          refine (HK.out _ ).mono ?_
          rintro e w17 ⟨rfl, hB⟩
          have I2 := Lib.hid (I2.out.below hB (Nat.le_refl _))
          have IL := Lib.hid (IL.out.below hB (Nat.le_refl _))
          have I3 := Lib.hid (I3.out.below hB (Nat.le_refl _))
          have I4 := Lib.hid (I4.out.below hB (Nat.le_refl _))
          have I5 := Lib.hid (I5.out.below hB (Nat.le_refl _))
          have HB := Lib.hid (HB.out.trans (hB.mono HB.out.size))
          clear hB
          go_wp2_with fail
          go_ret
          exact ⟨rfl, HB.out⟩
    · have e1 : (vsu t != 0) = true := by simpa using hv
      have e2 : (vsu t == vsu t) = true := by simp
      generalize coverL t = q2 at *
      generalize (if vsu t = 0 then nedL (tblM t) else []) = q1 at *
      generalize vsu t = c at *
      clear hv hm
      go_enter Try.func9, Try.ntmps9
      go_wp2_with fail
      refine (HL.out _ HT.out).mono ?_
      rintro e w0 ⟨rfl, rfl⟩
      go_wp2_with fail
      refine (C1.out _ HT.out).mono ?_
      rintro e w1 ⟨a1, c1, rfl, ho, hB⟩
      have HB := Lib.hid hB
      have I1 := Lib.hid ((ints_of_own ho).1)
      clear hB ho
      go_wp2_with fail
      refine (C2.out _ (HT.out.below HB.out (Nat.le_refl _))).mono ?_
      rintro e w2 ⟨a2, c2, rfl, ho, hB⟩
      have I1 := Lib.hid (I1.out.below hB (Nat.le_refl _))
      have HB := Lib.hid (HB.out.trans (hB.mono HB.out.size))
      have I2 := Lib.hid ((ints_of_own ho).1)
      clear hB ho
      go_wp2_with fail
      refine (HK.out _ ).mono ?_
      rintro e w3 ⟨rfl, hB⟩
      have I1 := Lib.hid (I1.out.below hB (Nat.le_refl _))
      have I2 := Lib.hid (I2.out.below hB (Nat.le_refl _))
      have HB := Lib.hid (HB.out.trans (hB.mono HB.out.size))
      clear hB
      go_wp2_with fail
      go_ret
      exact ⟨rfl, HB.out⟩
  · rw [hl] at HL
    clear ht hc hml hl
    go_enter Try.func9, Try.ntmps9
    go_wp2_with fail
    refine (HL.out _ HT.out).mono ?_
    rintro e w0 ⟨rfl, rfl⟩
    go_wp2_with fail
    refine (HK.out _ ).mono ?_
    rintro e w1 ⟨rfl, hB⟩
    have HB := Lib.hid hB
    clear hB
    go_wp2_with fail
    go_ret
    exact ⟨rfl, HB.out⟩

end Go.Proofs.Ytmigkbimdjiigaa
