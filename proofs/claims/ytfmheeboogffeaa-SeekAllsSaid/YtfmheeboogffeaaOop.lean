/- otherOps of seek: contract. -/
import Derived.Test.YtfmheeboogffeaaWth
import Derived.Test.YtfmheeboogffeaaDlI
import Derived.Test.YtfmheeboogffeaaKnownT
import Derived.Test.YtfmheeboogffeaaSkB
set_option linter.unusedVariables false
set_option linter.unusedSimpArgs false
namespace Go.Proofs.Ytfmheeboogffeaa
open Go.RowKit Go.Shelf Tinker

def opN (l : L) (k : Nat) : List L := (([3, 4, 5, 6] : List Int).take k).map fun o => ⟨o, l.to, l.a, l.b⟩
theorem opN_succ (l : L) {k : Nat} {n : Int} (h : ([3, 4, 5, 6] : List Int)[k]? = some n) : opN l (k + 1) = opN l k ++ [⟨n, l.to, l.a, l.b⟩] := by
  unfold opN
  rw [take_snoc h, List.map_append]
  rfl
theorem opN_len (l : L) (k : Nat) : (opN l k).length ≤ 4 := by
  unfold opN
  rw [List.length_map, List.length_take]
  exact Nat.min_le_right _ _
theorem mix_has (n : Int) : hasB [3, 4, 5, 6] n = mixB n := by
  unfold hasB mixB
  rw [Bool.eq_iff_iff]
  simp
  omega

set_option maxRecDepth 100000 in
set_option maxHeartbeats 4000000 in
theorem otherOps_any (l : L) (ww : World) : Calls Try.prog 31 #[lv l] ww (GivesLines (opsL l) ww) := by
  obtain ⟨i0, hi, hz0, hz1, hz2⟩ := info_parts info_line
  obtain ⟨W0, hW0⟩ : ∃ W, W = (ww.alloc (.cells (lV l) 23)).alloc (.cells #[.int .i64 3, .int .i64 4, .int .i64 5, .int .i64 6] 3) := ⟨_, rfl⟩
  have hb2 : Below ww.heap.size ww W0 := by rw [hW0]; exact ((Below.refl _ _).alloc (Nat.le_refl _) _).alloc (by simp) _
  have hbx : W0.heap[ww.heap.size]? = some (.cells (lV l) 23 (0, 0)) := by rw [hW0]; exact hp_alloc (hp_new rfl)
  have hin : IntsAt W0 (some ⟨ww.heap.size + 1, 0, none⟩) [3, 4, 5, 6] := by rw [hW0]; exact ints_lit' (zs := [3, 4, 5, 6]) (by simp)
  have HI := Lib.hid (containsI_any (some ⟨ww.heap.size + 1, 0, none⟩) 4 [3, 4, 5, 6] l.op _ hin (by decide))
  rw [mix_has] at HI
  obtain ⟨x0, x1, x2, x3⟩ := boxL_cells hbx
  have HBX := Lib.hid hbx
  have HIN := Lib.hid hin
  have HBw := Lib.hid hb2
  clear hb2 hbx hin
  unfold lv
  unfold lV at hW0
  cases hm : mixB l.op
  · have HE := Lib.hid (show opsL l = [] by unfold opsL; rw [hm]; rfl)
    rw [hm] at HI
    rw [HE.out]
    clear hm
    go_enter Try.func31, Try.ntmps31
    rw [hW0] at x0 x1 x2 x3
    go_wp2_with fail
    rw [show ((ww.alloc (.cells #[.int .i64 l.op, .int .i64 l.to, .int .i64 l.a, .int .i64 l.b] 23)).alloc (.cells #[.int .i64 3, .int .i64 4, .int .i64 5, .int .i64 6] 3)) = W0 from hW0.symm] at x0 x1 x2 x3 ⊢
    clear hW0
    refine HI.out.mono ?_
    rintro e w1 ⟨rfl, rfl⟩
    go_wp2_with fail
    go_ret
    exact ⟨none, 0, rfl, World.ownsRow_nil _ _ _ _, HBw.out⟩
  · have HE := Lib.hid (show opsL l = opN l 4 by unfold opsL; rw [hm]; rfl)
    rw [hm] at HI
    rw [HE.out]
    clear hm HE
    go_enter Try.func31, Try.ntmps31
    rw [hW0] at x0 x1 x2 x3
    go_wp2_with fail
    rw [show ((ww.alloc (.cells #[.int .i64 l.op, .int .i64 l.to, .int .i64 l.a, .int .i64 l.b] 23)).alloc (.cells #[.int .i64 3, .int .i64 4, .int .i64 5, .int .i64 6] 3)) = W0 from hW0.symm] at x0 x1 x2 x3 ⊢
    clear hW0
    refine HI.out.mono ?_
    rintro e w1 ⟨rfl, hw1⟩
    subst hw1
    clear HI
    go_wp2_with fail
    go_loopw [4, 15] (fun s4 s15 wr => ∃ k : Nat, k ≤ 4 ∧ s15 = .int .i64 k ∧ wr.ownsRow W0.heap.size 23 4 s4 (opN l k).length (lc (opN l k)) ∧ Below W0.heap.size W0 wr) (fun _ s15 _ => 4 - (intOf s15).toNat)
    case atStart => exact ⟨0, by omega, rfl, World.ownsRow_nil _ _ _ _, Below.refl _ _⟩
    case round =>
      clear x0 x1 x2 x3
      obtain ⟨k, hk, rfl, hO, hB⟩ := hrel
      have hbx := hp_below HBX.out hB (hp_lt HBX.out)
      have hin := HIN.out.below hB (Nat.le_refl _)
      by_cases hlt : k < 4
      · obtain ⟨va, vc, rfl⟩ := own_slice hO
        obtain ⟨b, off, n, eb, hlb, hn, c0⟩ := hin.at_ (k := k) (by simpa using hlt)
        injection eb with eb
        injection eb with e1 e2 e3
        subst e1
        subst e2
        rw [Nat.zero_add] at c0
        have HN := Lib.hid (opN_succ l hn)
        have hlen := opN_len l k
        obtain ⟨x0, x1, x2, x3⟩ := boxL_cells hbx
        have HO := Lib.hid hO
        have HB := Lib.hid hB
        clear hO hbx hin hB hn
        generalize opN l k = P at *
        have hal2 : Below wr.heap.size wr (wr.alloc (.cells (lV ⟨n, l.to, l.a, l.b⟩) 23)) := (Below.refl _ _).alloc (Nat.le_refl _) _
        have HO2 := Lib.hid (own_below HO.out hal2 (Nat.le_refl _))
        have HB2 := Lib.hid (HB.out.trans (hal2.mono HB.out.size))
        have HC := Lib.hid (cells_newL wr ⟨n, l.to, l.a, l.b⟩)
        unfold lV at HO2 HB2 HC
        clear hal2
        go_wp2_with (at_builtin; (refine wpList_append_own _ rfl (.tmp 19) (.tmp 28) 29 rfl W0.heap.size 23 i0 (.agg #[.int .i64 0, .int .i64 0, .int .i64 0, .int .i64 0]) 4 32 Try.underlying29 hi hz0 hz1 hz2 rfl (by decide) (.slice va P.length vc) P.length (lc P) rfl HO2.out ⟨wr.heap.size, 0, none⟩ 1 1 (lc [⟨n, l.to, l.a, l.b⟩]) rfl ?c1 ?c2 ?c3 ?c4 ?c5 ?c6 ?_))
        case c1 => rfl
        case c2 => first | exact HC.out | exact fun _ _ h => h
        case c3 => exact lc_one _
        case c4 => simp [maxLen]; omega
        case c5 => omega
        case c6 => first | exact HB2.out.size | (have := HB2.out.size; simpa using this)
        intro v' w2 hown hgrow _
        have HB3 := Lib.hid (HB2.out.grown hgrow HB2.out.size (by rintro k hk; exact (HO2.out.lt k hk).1))
        have HO3 := Lib.hid (lines_snoc hown)
        clear hown hgrow
        go_wp2_with fail
        go_roundw
        case rel => exact ⟨k + 1, by omega, by go_num, by rw [HN.out, List.length_append]; exact HO3.out, HB3.out⟩
        case measure => simp [intOf]; omega
      · obtain rfl : k = 4 := by omega
        have HO := Lib.hid hO
        have HB := Lib.hid hB
        clear hO hbx hin hB
        go_wp2_with fail
        go_ret
        exact givesLines_of rfl (own_mono HO.out HBw.out.size) (HBw.out.trans (HB.out.mono HBw.out.size))

end Go.Proofs.Ytfmheeboogffeaa
