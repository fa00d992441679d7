/- point, Point, of, Of of the document: contracts. -/
import Derived.Test.YtmpghapfldjfeaaSrC
import Derived.Test.YtmpghapfldjfeaaChkA
set_option linter.unusedVariables false
set_option linter.unusedSimpArgs false
namespace Go.Proofs.Ytmpghapfldjfeaa
open Go.RowKit Tinker

set_option maxRecDepth 100000 in
set_option maxHeartbeats 4000000 in
theorem rpoint_any (a : Option Addr) (ca : Nat) (s : List Int) (w : World) (hs : IntsAt w a s) (h4 : s.length = 4) :
    Calls Try.prog 78 #[.slice a 4 ca] w (GivesRg (ptB s) w) := by
  obtain ⟨i0, hi, hz0, hz1, hz2⟩ := info_parts info_range
  have HL := Lib.hid h4
  have HS := Lib.hid hs
  have HPL := Lib.hid (show (ptB s).length = 4 by rw [ptB_len]; exact h4)
  have HPT := Lib.hid (fun k n (h : s[k]? = some n) => show (ptB s).take (k + 1) = (ptB s).take k ++ [⟨n, n⟩] from take_snoc (by unfold ptB; rw [List.getElem?_map, h]; rfl))
  have HLK := Lib.hid (fun k => show ((ptB s).take k).length ≤ 4 by rw [List.length_take, ptB_len]; omega)
  generalize ptB s = B at *
  clear h4 hs
  go_enter Try.func78, Try.ntmps78
  go_wp2_with fail
  go_loopw [3, 4] (fun s3 s4 wr => ∃ k : Nat, k ≤ 4 ∧ s4 = .int .i64 k ∧ wr.ownsRow w.heap.size 39 2 s3 (B.take k).length (gc (B.take k)) ∧ Below w.heap.size w wr) (fun _ s4 _ => 4 - (intOf s4).toNat)
  case atStart => exact ⟨0, Nat.zero_le _, rfl, World.ownsRow_nil _ _ _ _, Below.refl _ _⟩
  case round =>
    obtain ⟨k, hk, rfl, hown, hB⟩ := hrel
    by_cases hlt : k < 4
    · obtain ⟨g, off, n, rfl, hlb, hn, c0⟩ := HS.out.at_ (show k < s.length by rw [HL.out]; exact hlt)
      have HST := Lib.hid (HPT.out k n hn)
      obtain ⟨P, hP⟩ : ∃ P, P = B.take k := ⟨_, rfl⟩
      rw [← hP] at hown
      have HPP := Lib.hid hP
      have hlk : P.length ≤ 4 := by rw [hP]; exact HLK.out k
      have HO := Lib.hid hown
      have HLB := Lib.hid hlb
      have HC0 := Lib.hid c0
      have HB0 := Lib.hid hB.drew
      replace HO : Hid (wr.drew.ownsRow w.heap.size 39 2 _ P.length (gc P)) := Lib.hid HO.out
      have hlt1 : decide ((k : Int) < 4) = true := decide_eq_true (by omega)
      obtain ⟨va, vc, rfl⟩ := own_slice HO.out
      clear hown hP hB hn c0 hlb
      go_upto_region 5 with fail
      refine wp_region_held_drew (S := (fun W => Below w.heap.size w W)) (by kernel_rfl) ?_ (fun hHeld => ?_)
      · exact HB0.out
      generalize wr.drew = Wd at *
      refine wpAnyH_take (i := 0) (oi := ?oiq1) (v := ?vq1) ?hiq1 (by kernel_rfl) (by kernel_rfl) (by kernel_rfl) ?hqq1 ?hyq1 hHeld ?restq1
      case hiq1 => exact rfl
      case hqq1 => exact fun _ _ _ h => h
      case hyq1 =>
        refine Or.inl ⟨by rfl, ?_⟩
        intro w hSw
        go_simp
        (try with_reducible rfl)
      try simp only [Act.put, List.getElem_toArray, List.getElem_cons_succ, List.getElem_cons_zero, List.setIfInBounds_toArray, List.set_cons_zero, List.set_cons_succ]
      refine wpAnyH_take (i := 1) (oi := ?oiq2) (v := ?vq2) ?hiq2 (by kernel_rfl) (by kernel_rfl) (by kernel_rfl) ?hqq2 ?hyq2 hHeld ?restq2
      case hiq2 => exact rfl
      case hqq2 => exact fun _ _ _ h => h
      case hyq2 =>
        refine Or.inl ⟨by rfl, ?_⟩
        intro w hSw
        go_simp
        (try with_reducible rfl)
      try simp only [Act.put, List.getElem_toArray, List.getElem_cons_succ, List.getElem_cons_zero, List.setIfInBounds_toArray, List.set_cons_zero, List.set_cons_succ]
      refine wpAnyH_take (i := 2) (oi := ?oiq3) (v := ?vq3) ?hiq3 (by kernel_rfl) (by kernel_rfl) (by kernel_rfl) ?hqq3 ?hyq3 hHeld ?restq3
      case hiq3 => exact rfl
      case hqq3 => exact fun _ _ _ h => h
      case hyq3 =>
        refine Or.inl ⟨by rfl, ?_⟩
        intro w hSw
        go_simp
        (try with_reducible rfl)
      try simp only [Act.put, List.getElem_toArray, List.getElem_cons_succ, List.getElem_cons_zero, List.setIfInBounds_toArray, List.set_cons_zero, List.set_cons_succ]
      refine wpAnyH_take (i := 3) (oi := ?oiq4) (v := (.pointer (some ⟨g, off + k, none⟩))) ?hiq4 (by kernel_rfl) (by kernel_rfl) (by kernel_rfl) ?hqq4 ?hyq4 hHeld ?restq4
      case hiq4 => exact rfl
      case hqq4 => exact fun _ _ _ h => h
      case hyq4 =>
        refine Or.inl ⟨by rfl, ?_⟩
        intro w hSw
        go_simp
        (try rw [if_pos (by omega)])
        (try (intro h9; omega))
        (try rfl)
        (try with_reducible rfl)
      try simp only [Act.put, List.getElem_toArray, List.getElem_cons_succ, List.getElem_cons_zero, List.setIfInBounds_toArray, List.set_cons_zero, List.set_cons_succ]
      refine wpAnyH_take (i := 4) (oi := ?oiq5) (v := (.int .i64 n)) ?hiq5 (by kernel_rfl) (by kernel_rfl) (by kernel_rfl) ?hqq5 ?hyq5 hHeld ?restq5
      case hiq5 => exact rfl
      case hqq5 => exact fun _ _ _ h => h
      case hyq5 =>
        refine Or.inl ⟨by rfl, ?_⟩
        intro w hSw
        have z := (hSw.cell (p := ⟨g, off + k, none⟩) HLB.out).trans HC0.out
        go_simp
        (try with_reducible rfl)
      try simp only [Act.put, List.getElem_toArray, List.getElem_cons_succ, List.getElem_cons_zero, List.setIfInBounds_toArray, List.set_cons_zero, List.set_cons_succ]
      refine wpAnyH_take (i := 5) (oi := ?oiq6) (v := ?vq6) ?hiq6 (by kernel_rfl) (by kernel_rfl) (by kernel_rfl) ?hqq6 ?hyq6 hHeld ?restq6
      case hiq6 => exact rfl
      case hqq6 => exact fun _ _ _ h => h
      case hyq6 =>
        refine Or.inl ⟨by rfl, ?_⟩
        intro w hSw
        go_simp
        (try with_reducible rfl)
      try simp only [Act.put, List.getElem_toArray, List.getElem_cons_succ, List.getElem_cons_zero, List.setIfInBounds_toArray, List.set_cons_zero, List.set_cons_succ]
      refine wpAnyH_take (i := 6) (oi := ?oiq7) (v := ?vq7) ?hiq7 (by kernel_rfl) (by kernel_rfl) (by kernel_rfl) ?hqq7 ?hyq7 hHeld ?restq7
      case hiq7 => exact rfl
      case hqq7 => exact fun _ _ _ h => h
      case hyq7 =>
        refine Or.inl ⟨by rfl, ?_⟩
        intro w hSw
        go_simp
        (try with_reducible rfl)
      try simp only [Act.put, List.getElem_toArray, List.getElem_cons_succ, List.getElem_cons_zero, List.setIfInBounds_toArray, List.set_cons_zero, List.set_cons_succ]
      refine wpAnyH_take (i := 7) (oi := ?oiq8) (v := (.pointer (some ⟨g, off + k, none⟩))) ?hiq8 (by kernel_rfl) (by kernel_rfl) (by kernel_rfl) ?hqq8 ?hyq8 hHeld ?restq8
      case hiq8 => exact rfl
      case hqq8 => exact fun _ _ _ h => h
      case hyq8 =>
        refine Or.inl ⟨by rfl, ?_⟩
        intro w hSw
        go_simp
        (try rw [if_pos (by omega)])
        (try (intro h9; omega))
        (try rfl)
        (try with_reducible rfl)
      try simp only [Act.put, List.getElem_toArray, List.getElem_cons_succ, List.getElem_cons_zero, List.setIfInBounds_toArray, List.set_cons_zero, List.set_cons_succ]
      refine wpAnyH_take (i := 8) (oi := ?oiq9) (v := (.int .i64 n)) ?hiq9 (by kernel_rfl) (by kernel_rfl) (by kernel_rfl) ?hqq9 ?hyq9 hHeld ?restq9
      case hiq9 => exact rfl
      case hqq9 => exact fun _ _ _ h => h
      case hyq9 =>
        refine Or.inl ⟨by rfl, ?_⟩
        intro w hSw
        have z := (hSw.cell (p := ⟨g, off + k, none⟩) HLB.out).trans HC0.out
        go_simp
        (try with_reducible rfl)
      try simp only [Act.put, List.getElem_toArray, List.getElem_cons_succ, List.getElem_cons_zero, List.setIfInBounds_toArray, List.set_cons_zero, List.set_cons_succ]
      refine wpAnyH_take (i := 9) (oi := ?oiq10) (v := ?vq10) ?hiq10 (by kernel_rfl) (by kernel_rfl) (by kernel_rfl) ?hqq10 ?hyq10 hHeld ?restq10
      case hiq10 => exact rfl
      case hqq10 => exact fun _ _ _ h => h
      case hyq10 =>
        refine Or.inl ⟨by rfl, ?_⟩
        intro w hSw
        go_simp
        (try with_reducible rfl)
      try simp only [Act.put, List.getElem_toArray, List.getElem_cons_succ, List.getElem_cons_zero, List.setIfInBounds_toArray, List.set_cons_zero, List.set_cons_succ]
      refine wpAnyH_ready (rs := [10]) (by kernel_rfl) (by simp) ?_
      refine AllReadyH.cons (o := ?or13_10) ?hr13_10 ?kr13_10 AllReadyH.nil
      case hr13_10 => exact rfl
      case kr13_10 =>
        intro K hK
        go_simp
        have HB1 := Lib.hid (HB0.out.alloc HB0.out.size (.cells #[.int .i64 n, .int .i64 n] 39))
        have HO1 := Lib.hid (own_below HO.out ((Below.refl Wd.heap.size Wd).alloc (Nat.le_refl _) (.cells #[.int .i64 n, .int .i64 n] 39)) (Nat.le_refl _))
        have HC1 := Lib.hid (show ∀ j u, (gc [⟨n, n⟩])[j]? = some u → (Wd.alloc (.cells #[.int .i64 n, .int .i64 n] 39)).cell? ((⟨Wd.heap.size, 0, none⟩ : Addr).add j) = some u from fun j u hu => by rw [show (⟨Wd.heap.size, 0, none⟩ : Addr).add j = ⟨Wd.heap.size, 0 + j, none⟩ by first | (simp [Addr.add]; done) | (simp [Addr.add]; omega), Nat.zero_add]; exact hp_cell (hp_new rfl) (by show (gc [⟨n, n⟩]).toArray[j]? = some u; rw [List.getElem?_toArray]; exact hu))
        refine hK.out _ _ HB1.out (fun hHeld => ?_)
        clear hK K
        try simp only [Act.put, List.getElem_toArray, List.getElem_cons_succ, List.getElem_cons_zero, List.setIfInBounds_toArray, List.set_cons_zero, List.set_cons_succ]
        refine wpAnyH_ready (rs := [11]) (by kernel_rfl) (by simp) ?_
        refine AllReadyH.cons (o := ?or12_11) ?hr12_11 ?kr12_11 AllReadyH.nil
        case hr12_11 => exact rfl
        case kr12_11 =>
          intro K hK
          rw [if_pos (by rfl)]
          refine wp_append_own _ (.tmp 11) (.tmp 21) 22 rfl w.heap.size 39 i0 (.agg #[.int .i64 0, .int .i64 0]) 2 16 Try.underlying22 hi hz0 hz1 hz2 rfl (by decide) _ P.length (gc P) rfl HO1.out ⟨Wd.heap.size, 0, none⟩ 1 1 (gc [⟨n, n⟩]) rfl rfl HC1.out (gc_one _) (by simp [maxLen]; omega) (by omega) HB1.out.size ?_
          intro v5 W2 hown5 hgrow5 _
          have HB2x := Lib.hid (HB1.out.grown hgrow5 HB1.out.size (by rintro k hk; exact (HO1.out.lt k hk).1))
          have HO2 := Lib.hid (show W2.ownsRow w.heap.size 39 2 v5 (P ++ [(⟨n, n⟩ : Rg)]).length (gc (P ++ [(⟨n, n⟩ : Rg)])) by rw [List.length_append, gc_append]; exact hown5)
          clear hown5 hgrow5
          refine hK.out _ _ HB2x.out (fun hHeld => ?_)
          clear hK K
          try simp only [Act.put, List.getElem_toArray, List.getElem_cons_succ, List.getElem_cons_zero, List.setIfInBounds_toArray, List.set_cons_zero, List.set_cons_succ]
          refine wpAnyH_take (i := 12) (oi := ?oiq11) (v := ?vq11) ?hiq11 (by kernel_rfl) (by kernel_rfl) (by kernel_rfl) ?hqq11 ?hyq11 hHeld ?restq11
          case hiq11 => exact rfl
          case hqq11 => exact fun _ _ _ h => h
          case hyq11 =>
            refine Or.inl ⟨by rfl, ?_⟩
            intro w hSw
            go_simp
            (try with_reducible rfl)
          try simp only [Act.put, List.getElem_toArray, List.getElem_cons_succ, List.getElem_cons_zero, List.setIfInBounds_toArray, List.set_cons_zero, List.set_cons_succ]
          refine wpAnyH_done (by kernel_rfl) ?_ _
          clear hHeld
          go_wp2_with fail
          go_roundw
          case rel => exact ⟨k + 1, by omega, by go_num, by rw [HST.out, ← HPP.out]; exact HO2.out, HB2x.out⟩
          case measure => simp [intOf]; omega
    · have : k = 4 := by omega
      subst this
      rw [show ((4 : Nat) : Int) = 4 from rfl]
      have HTT := Lib.hid (show B.take 4 = B by rw [List.take_of_length_le (by rw [HPL.out]; omega)])
      rw [HTT.out] at hown
      have HO := Lib.hid hown
      obtain ⟨va, vc, rfl⟩ := own_slice HO.out
      clear hown
      go_wp2_with fail
      go_ret
      exact ⟨va, vc, rfl, HO.out, hB⟩

set_option maxRecDepth 100000 in
set_option maxHeartbeats 1000000 in
theorem rPoint6_any (a1 : Option Addr) (c1 : Nat) (s : List Int) (w : World) (hb : IntsAt w a1 s) :
    Calls Try.prog 33 #[.slice a1 s.length c1] w (GivesRgE (pointA s) (vs s) w) := by
  have H1 := Lib.hid (fun w h => rValidateState_any a1 c1 s w h)
  have HR := Lib.hid hb
  rcases vs_cases s with hz | hz
  · have h4 := (vs_ok hz).1
    rw [show pointA s = ptB s by unfold pointA; rw [if_pos hz], hz]
    have HG := Lib.hid (fun w h => rpoint_any a1 c1 s w h h4)
    rw [hz, h4] at H1
    rw [h4]
    generalize ptB s = M at *
    clear hz h4 hb
    go_enter Try.func33, Try.ntmps33
    go_wp2_with fail
    refine (H1.out _ HR.out).mono ?_
    rintro e w0 ⟨rfl, rfl⟩
    go_wp2_with fail
    refine (HG.out _ HR.out).mono ?_
    rintro e w6 ⟨a', c', rfl, hown, hB8⟩
    have HO := Lib.hid hown
    clear hown
    go_wp2_with fail
    go_ret2
    exact ⟨a', c', rfl, HO.out, hB8⟩
  · rw [show pointA s = [] by unfold pointA; rw [hz]; rfl, hz]
    rw [hz] at H1
    clear hz hb
    go_enter Try.func33, Try.ntmps33
    go_wp2_with fail
    refine (H1.out _ HR.out).mono ?_
    rintro e w0 ⟨rfl, rfl⟩
    go_wp2_with fail
    go_ret2
    exact givesRgE_nil (Below.refl _ _)

end Go.Proofs.Ytmpghapfldjfeaa
