/- of, Of of the document: contracts. -/
import Derived.Test.YtmpghapfldjfeaaSrF
import Derived.Test.YtmpghapfldjfeaaSpJ
set_option linter.unusedVariables false
set_option linter.unusedSimpArgs false
namespace Go.Proofs.Ytmpghapfldjfeaa
open Go.RowKit Tinker

theorem BoxC.low1 {x : Nat} {a b : Option Addr} {n m ca cb : Nat} {out mn mx : Int} {w W W' : World} {B : Nat} (h : BoxC x a b n m ca cb out mn mx w W) (hb : Below B W W') (h1 : x < B) (h2 : w.heap.size ≤ B) : BoxC x a b n m ca cb out mn mx w W' :=
  ⟨hp_below h.bl hb h1, h.below.trans (hb.mono h2)⟩
theorem conB_len {lo hi : List Int} (h : lo.length = 4) (h2 : hi.length = 4) : (conB lo hi).length = 4 := by unfold conB; rw [List.length_zipWith, h, h2]; rfl

set_option maxRecDepth 100000 in
set_option maxHeartbeats 4000000 in
theorem rof_any (a b : Option Addr) (ca cb : Nat) (lo hi : List Int) (out mn mx : Int) (w : World) (hl : IntsAt w a lo) (hh : IntsAt w b hi) (h4 : lo.length = 4) (k4 : hi.length = 4) :
    Calls Try.prog 88 #[.agg #[.slice a 4 ca, .slice b 4 cb, .int .i64 out, .int .i64 mn, .int .i64 mx]] w (GivesRg (conB lo hi) w) := by
  obtain ⟨i0, hi', hz0, hz1, hz2⟩ := info_parts info_range
  have hi0 := hi'
  clear hi'
  obtain ⟨lb, lf, rfl, _⟩ := id (hl.resolve_left (by rintro rfl; simp at h4))
  obtain ⟨hb, hf, rfl, _⟩ := id (hh.resolve_left (by rintro rfl; simp at k4))
  have HI := Lib.hid (boxC_new (a := some ⟨lb, lf, none⟩) (b := some ⟨hb, hf, none⟩) (n := 4) (m := 4) (ca := ca) (cb := cb) (out := out) (mn := mn) (mx := mx) w)
  have HL := Lib.hid h4
  have HK := Lib.hid k4
  have HS := Lib.hid hl
  have HT := Lib.hid hh
  have HPL := Lib.hid (conB_len h4 k4)
  have HPT := Lib.hid (fun k x y (h : lo[k]? = some x) (h' : hi[k]? = some y) => show (conB lo hi).take (k + 1) = (conB lo hi).take k ++ [⟨x, y⟩] from take_snoc (by unfold conB; rw [List.getElem?_zipWith, h, h']))
  have HLK := Lib.hid (fun k => show ((conB lo hi).take k).length ≤ 4 by rw [List.length_take, conB_len h4 k4]; omega)
  generalize conB lo hi = B at *
  clear h4 k4 hl hh
  have x0 := HI.out.c0
  have x1 := HI.out.c1
  go_enter Try.func88, Try.ntmps88
  go_wp2_with fail
  go_loopw [3, 4] (fun s3 s4 wr => ∃ k : Nat, k ≤ 4 ∧ s4 = .int .i64 k ∧ wr.ownsRow (w.heap.size + 1) 39 2 s3 (B.take k).length (gc (B.take k)) ∧ BoxC w.heap.size (some ⟨lb, lf, none⟩) (some ⟨hb, hf, none⟩) 4 4 ca cb out mn mx w wr) (fun _ s4 _ => 4 - (intOf s4).toNat)
  case atStart => exact ⟨0, Nat.zero_le _, rfl, World.ownsRow_nil _ _ _ _, HI.out⟩
  case round =>
    clear x0 x1 HI
    obtain ⟨k, hk, rfl, hown, hB⟩ := hrel
    have x0 := hB.c0
    have x1 := hB.c1
    by_cases hlt : k < 4
    · obtain ⟨g1, o1, x, e1, hlb, hx, c0⟩ := HS.out.at_ (show k < lo.length by rw [HL.out]; exact hlt)
      injection e1 with e1
      injection e1 with e2 e3
      subst e2 e3
      obtain ⟨g1, o1, y, e1, hhb, hy, c1⟩ := HT.out.at_ (show k < hi.length by rw [HK.out]; exact hlt)
      injection e1 with e1
      injection e1 with e2 e3
      subst e2 e3
      have HST := Lib.hid (HPT.out k x y hx hy)
      obtain ⟨P, hP⟩ : ∃ P, P = B.take k := ⟨_, rfl⟩
      rw [← hP] at hown
      have HPP := Lib.hid hP
      have hlk : P.length ≤ 4 := by rw [hP]; exact HLK.out k
      have HO := Lib.hid hown
      have HLB := Lib.hid hlb
      have HHB := Lib.hid hhb
      have HC0 := Lib.hid c0
      have HC1 := Lib.hid c1
      have HB0 := Lib.hid hB.drew
      replace HO : Hid (wr.drew.ownsRow (w.heap.size + 1) 39 2 _ P.length (gc P)) := Lib.hid HO.out
      have hlt1 : decide ((k : Int) < 4) = true := decide_eq_true (by omega)
      obtain ⟨va, vc, rfl⟩ := own_slice HO.out
      clear hown hP hB hx hy c0 c1 hlb hhb
      go_upto_region 5 with fail
      clear x0 x1
      have hi := hi0
      refine wp_region_held_drew (S := (fun W => BoxC w.heap.size (some ⟨lb, lf, none⟩) (some ⟨hb, hf, none⟩) 4 4 ca cb out mn mx w W)) (by kernel_rfl) ?_ (fun hHeld => ?_)
      · exact HB0.out
      generalize wr.drew = Wd at *
      refine wpAnyH_take (i := 0) (oi := ?oiq1) (v := ?vq1) ?hiq1 (by kernel_rfl) (by kernel_rfl) (by kernel_rfl) ?hqq1 ?hyq1 hHeld ?restq1
      case hiq1 => exact rfl
      case hqq1 => exact fun _ _ _ h => h
      case hyq1 =>
        refine Or.inl ⟨by rfl, ?_⟩
        intro w hSw
        go_simp
        (try with_reducible rfl)
      try simp only [Act.put, List.getElem_toArray, List.getElem_cons_succ, List.getElem_cons_zero, List.setIfInBounds_toArray, List.set_cons_zero, List.set_cons_succ]
      refine wpAnyH_take (i := 1) (oi := ?oiq2) (v := ?vq2) ?hiq2 (by kernel_rfl) (by kernel_rfl) (by kernel_rfl) ?hqq2 ?hyq2 hHeld ?restq2
      case hiq2 => exact rfl
      case hqq2 => exact fun _ _ _ h => h
      case hyq2 =>
        refine Or.inl ⟨by rfl, ?_⟩
        intro w hSw
        go_simp
        (try with_reducible rfl)
      try simp only [Act.put, List.getElem_toArray, List.getElem_cons_succ, List.getElem_cons_zero, List.setIfInBounds_toArray, List.set_cons_zero, List.set_cons_succ]
      refine wpAnyH_take (i := 2) (oi := ?oiq3) (v := (.slice (some ⟨lb, lf, none⟩) 4 ca)) ?hiq3 (by kernel_rfl) (by kernel_rfl) (by kernel_rfl) ?hqq3 ?hyq3 hHeld ?restq3
      case hiq3 => exact rfl
      case hqq3 => exact fun _ _ _ h => h
      case hyq3 =>
        refine Or.inl ⟨by rfl, ?_⟩
        intro w hSw
        have z := hSw.c0
        go_simp
        (try with_reducible rfl)
      try simp only [Act.put, List.getElem_toArray, List.getElem_cons_succ, List.getElem_cons_zero, List.setIfInBounds_toArray, List.set_cons_zero, List.set_cons_succ]
      refine wpAnyH_take (i := 3) (oi := ?oiq4) (v := ?vq4) ?hiq4 (by kernel_rfl) (by kernel_rfl) (by kernel_rfl) ?hqq4 ?hyq4 hHeld ?restq4
      case hiq4 => exact rfl
      case hqq4 => exact fun _ _ _ h => h
      case hyq4 =>
        refine Or.inl ⟨by rfl, ?_⟩
        intro w hSw
        go_simp
        (try with_reducible rfl)
      try simp only [Act.put, List.getElem_toArray, List.getElem_cons_succ, List.getElem_cons_zero, List.setIfInBounds_toArray, List.set_cons_zero, List.set_cons_succ]
      refine wpAnyH_take (i := 4) (oi := ?oiq5) (v := (.pointer (some ⟨lb, lf + k, none⟩))) ?hiq5 (by kernel_rfl) (by kernel_rfl) (by kernel_rfl) ?hqq5 ?hyq5 hHeld ?restq5
      case hiq5 => exact rfl
      case hqq5 => exact fun _ _ _ h => h
      case hyq5 =>
        refine Or.inl ⟨by rfl, ?_⟩
        intro w hSw
        go_simp
        (try rw [if_pos (by omega)])
        (try (intro h9; omega))
        (try rfl)
        (try with_reducible rfl)
      try simp only [Act.put, List.getElem_toArray, List.getElem_cons_succ, List.getElem_cons_zero, List.setIfInBounds_toArray, List.set_cons_zero, List.set_cons_succ]
      refine wpAnyH_take (i := 5) (oi := ?oiq6) (v := (.int .i64 x)) ?hiq6 (by kernel_rfl) (by kernel_rfl) (by kernel_rfl) ?hqq6 ?hyq6 hHeld ?restq6
      case hiq6 => exact rfl
      case hqq6 => exact fun _ _ _ h => h
      case hyq6 =>
        refine Or.inl ⟨by rfl, ?_⟩
        intro w hSw
        have z := (hSw.below.cell (p := ⟨lb, lf + k, none⟩) HLB.out).trans HC0.out
        go_simp
        (try with_reducible rfl)
      try simp only [Act.put, List.getElem_toArray, List.getElem_cons_succ, List.getElem_cons_zero, List.setIfInBounds_toArray, List.set_cons_zero, List.set_cons_succ]
      refine wpAnyH_take (i := 6) (oi := ?oiq7) (v := ?vq7) ?hiq7 (by kernel_rfl) (by kernel_rfl) (by kernel_rfl) ?hqq7 ?hyq7 hHeld ?restq7
      case hiq7 => exact rfl
      case hqq7 => exact fun _ _ _ h => h
      case hyq7 =>
        refine Or.inl ⟨by rfl, ?_⟩
        intro w hSw
        go_simp
        (try with_reducible rfl)
      try simp only [Act.put, List.getElem_toArray, List.getElem_cons_succ, List.getElem_cons_zero, List.setIfInBounds_toArray, List.set_cons_zero, List.set_cons_succ]
      refine wpAnyH_take (i := 7) (oi := ?oiq8) (v := (.slice (some ⟨hb, hf, none⟩) 4 cb)) ?hiq8 (by kernel_rfl) (by kernel_rfl) (by kernel_rfl) ?hqq8 ?hyq8 hHeld ?restq8
      case hiq8 => exact rfl
      case hqq8 => exact fun _ _ _ h => h
      case hyq8 =>
        refine Or.inl ⟨by rfl, ?_⟩
        intro w hSw
        have z := hSw.c1
        go_simp
        (try with_reducible rfl)
      try simp only [Act.put, List.getElem_toArray, List.getElem_cons_succ, List.getElem_cons_zero, List.setIfInBounds_toArray, List.set_cons_zero, List.set_cons_succ]
      refine wpAnyH_take (i := 8) (oi := ?oiq9) (v := ?vq9) ?hiq9 (by kernel_rfl) (by kernel_rfl) (by kernel_rfl) ?hqq9 ?hyq9 hHeld ?restq9
      case hiq9 => exact rfl
      case hqq9 => exact fun _ _ _ h => h
      case hyq9 =>
        refine Or.inl ⟨by rfl, ?_⟩
        intro w hSw
        go_simp
        (try with_reducible rfl)
      try simp only [Act.put, List.getElem_toArray, List.getElem_cons_succ, List.getElem_cons_zero, List.setIfInBounds_toArray, List.set_cons_zero, List.set_cons_succ]
      refine wpAnyH_take (i := 9) (oi := ?oiq10) (v := (.pointer (some ⟨hb, hf + k, none⟩))) ?hiq10 (by kernel_rfl) (by kernel_rfl) (by kernel_rfl) ?hqq10 ?hyq10 hHeld ?restq10
      case hiq10 => exact rfl
      case hqq10 => exact fun _ _ _ h => h
      case hyq10 =>
        refine Or.inl ⟨by rfl, ?_⟩
        intro w hSw
        go_simp
        (try rw [if_pos (by omega)])
        (try (intro h9; omega))
        (try rfl)
        (try with_reducible rfl)
      try simp only [Act.put, List.getElem_toArray, List.getElem_cons_succ, List.getElem_cons_zero, List.setIfInBounds_toArray, List.set_cons_zero, List.set_cons_succ]
      refine wpAnyH_take (i := 10) (oi := ?oiq11) (v := (.int .i64 y)) ?hiq11 (by kernel_rfl) (by kernel_rfl) (by kernel_rfl) ?hqq11 ?hyq11 hHeld ?restq11
      case hiq11 => exact rfl
      case hqq11 => exact fun _ _ _ h => h
      case hyq11 =>
        refine Or.inl ⟨by rfl, ?_⟩
        intro w hSw
        have z := (hSw.below.cell (p := ⟨hb, hf + k, none⟩) HHB.out).trans HC1.out
        go_simp
        (try with_reducible rfl)
      try simp only [Act.put, List.getElem_toArray, List.getElem_cons_succ, List.getElem_cons_zero, List.setIfInBounds_toArray, List.set_cons_zero, List.set_cons_succ]
      refine wpAnyH_take (i := 11) (oi := ?oiq12) (v := ?vq12) ?hiq12 (by kernel_rfl) (by kernel_rfl) (by kernel_rfl) ?hqq12 ?hyq12 hHeld ?restq12
      case hiq12 => exact rfl
      case hqq12 => exact fun _ _ _ h => h
      case hyq12 =>
        refine Or.inl ⟨by rfl, ?_⟩
        intro w hSw
        go_simp
        (try with_reducible rfl)
      try simp only [Act.put, List.getElem_toArray, List.getElem_cons_succ, List.getElem_cons_zero, List.setIfInBounds_toArray, List.set_cons_zero, List.set_cons_succ]
      refine wpAnyH_ready (rs := [12]) (by kernel_rfl) (by simp) ?_
      refine AllReadyH.cons (o := ?or15_12) ?hr15_12 ?kr15_12 AllReadyH.nil
      case hr15_12 => exact rfl
      case kr15_12 =>
        intro K hK
        go_simp
        have HB1 := Lib.hid (HB0.out.low ((Below.refl Wd.heap.size Wd).alloc (Nat.le_refl _) (.cells #[.int .i64 x, .int .i64 y] 39)))
        have HO1 := Lib.hid (own_below HO.out ((Below.refl Wd.heap.size Wd).alloc (Nat.le_refl _) (.cells #[.int .i64 x, .int .i64 y] 39)) (Nat.le_refl _))
        have HC3 := Lib.hid (show ∀ j u, (gc [⟨x, y⟩])[j]? = some u → (Wd.alloc (.cells #[.int .i64 x, .int .i64 y] 39)).cell? ((⟨Wd.heap.size, 0, none⟩ : Addr).add j) = some u from fun j u hu => by rw [show (⟨Wd.heap.size, 0, none⟩ : Addr).add j = ⟨Wd.heap.size, 0 + j, none⟩ by first | (simp [Addr.add]; done) | (simp [Addr.add]; omega), Nat.zero_add]; exact hp_cell (hp_new rfl) (by show (gc [⟨x, y⟩]).toArray[j]? = some u; rw [List.getElem?_toArray]; exact hu))
        refine hK.out _ _ HB1.out (fun hHeld => ?_)
        clear hK K
        try simp only [Act.put, List.getElem_toArray, List.getElem_cons_succ, List.getElem_cons_zero, List.setIfInBounds_toArray, List.set_cons_zero, List.set_cons_succ]
        refine wpAnyH_ready (rs := [13]) (by kernel_rfl) (by simp) ?_
        refine AllReadyH.cons (o := ?or14_13) ?hr14_13 ?kr14_13 AllReadyH.nil
        case hr14_13 => exact rfl
        case kr14_13 =>
          intro K hK
          rw [if_pos (by rfl)]
          refine wp_append_own _ (.tmp 12) (.tmp 24) 22 rfl (w.heap.size + 1) 39 i0 (.agg #[.int .i64 0, .int .i64 0]) 2 16 Try.underlying22 hi hz0 hz1 hz2 rfl (by decide) _ P.length (gc P) rfl HO1.out ⟨Wd.heap.size, 0, none⟩ 1 1 (gc [⟨x, y⟩]) rfl rfl HC3.out (gc_one _) (by simp [maxLen]; omega) (by omega) (by have := hp_lt HB1.out.bl; omega) ?_
          intro v5 W2 hown5 hgrow5 _
          have HB2x := Lib.hid (HB1.out.low1 (B := w.heap.size + 1) ((Below.refl (w.heap.size + 1) _).grown hgrow5 (by have := hp_lt HB1.out.bl; omega) (by rintro k hk; exact (HO1.out.lt k hk).1)) (by omega) (by omega))
          have HO2 := Lib.hid (show W2.ownsRow (w.heap.size + 1) 39 2 v5 (P ++ [(⟨x, y⟩ : Rg)]).length (gc (P ++ [(⟨x, y⟩ : Rg)])) by rw [List.length_append, gc_append]; exact hown5)
          clear hown5 hgrow5
          refine hK.out _ _ HB2x.out (fun hHeld => ?_)
          clear hK K
          try simp only [Act.put, List.getElem_toArray, List.getElem_cons_succ, List.getElem_cons_zero, List.setIfInBounds_toArray, List.set_cons_zero, List.set_cons_succ]
          refine wpAnyH_take (i := 14) (oi := ?oiq13) (v := ?vq13) ?hiq13 (by kernel_rfl) (by kernel_rfl) (by kernel_rfl) ?hqq13 ?hyq13 hHeld ?restq13
          case hiq13 => exact rfl
          case hqq13 => exact fun _ _ _ h => h
          case hyq13 =>
            refine Or.inl ⟨by rfl, ?_⟩
            intro w hSw
            go_simp
            (try with_reducible rfl)
          try simp only [Act.put, List.getElem_toArray, List.getElem_cons_succ, List.getElem_cons_zero, List.setIfInBounds_toArray, List.set_cons_zero, List.set_cons_succ]
          refine wpAnyH_done (by kernel_rfl) ?_ _
          clear hHeld
          go_wp2_with fail
          go_roundw
          case rel => exact ⟨k + 1, by omega, by go_num, by rw [HST.out, ← HPP.out]; exact HO2.out, HB2x.out⟩
          case measure => simp [intOf]; omega
    · have : k = 4 := by omega
      subst this
      rw [show ((4 : Nat) : Int) = 4 from rfl]
      have HTT := Lib.hid (show B.take 4 = B by rw [List.take_of_length_le (by rw [HPL.out]; omega)])
      rw [HTT.out, HPL.out] at hown
      have HO := Lib.hid (own_mono hown (base' := w.heap.size) (by omega))
      have HB := Lib.hid hB.below
      obtain ⟨va, vc, rfl⟩ := own_slice HO.out
      clear hown hB
      go_wp2_with fail
      go_ret
      unfold GivesRg
      rw [HPL.out]
      exact ⟨va, vc, rfl, HO.out, HB.out⟩

set_option maxRecDepth 100000 in
set_option maxHeartbeats 1000000 in
theorem rOf6_any (a b : Option Addr) (ca cb : Nat) (lo hi : List Int) (out mn mx : Int) (w : World) (hl : IntsAt w a lo) (hh : IntsAt w b hi) :
    Calls Try.prog 38 #[.agg #[.slice a lo.length ca, .slice b hi.length cb, .int .i64 out, .int .i64 mn, .int .i64 mx]] w (GivesRgE (ofA lo hi out mn mx) (vcon lo hi out mn mx) w) := by
  have HI := Lib.hid (boxC_new (a := a) (b := b) (n := lo.length) (m := hi.length) (ca := ca) (cb := cb) (out := out) (mn := mn) (mx := mx) w)
  have HV := Lib.hid (fun w hl hh => rValidateContract_any a b ca cb lo hi out mn mx w hl hh)
  have HL := Lib.hid hl
  have HH := Lib.hid hh
  by_cases hv : vcon lo hi out mn mx = 0
  · have hcon := (vcon_ok hv).1
    obtain ⟨q1, q2, _⟩ := isCon_ok hcon
    have h4 := (vs_ok q1).1
    have k4 := (vs_ok q2).1
    rw [show ofA lo hi out mn mx = conB lo hi by unfold ofA; rw [if_pos hv], hv]
    have HG := Lib.hid (fun w h1 h2 => rof_any a b ca cb lo hi out mn mx w h1 h2 h4 k4)
    rw [hv, h4, k4] at HV
    rw [h4, k4] at HI
    rw [h4, k4]
    generalize conB lo hi = M at *
    clear hv hcon q1 q2 h4 k4 hl hh
    have x0 := HI.out.c0
    have x1 := HI.out.c1
    have x2 := HI.out.c2
    have x3 := HI.out.c3
    have x4 := HI.out.c4
    go_enter Try.func38, Try.ntmps38
    go_wp2_with fail
    refine (HV.out _ (HL.out.below HI.out.below (Nat.le_refl _)) (HH.out.below HI.out.below (Nat.le_refl _))).mono ?_
    rintro e w1 ⟨rfl, hB⟩
    have HI1 := Lib.hid (HI.out.low hB)
    clear HI hB x0 x1 x2 x3 x4
    have x0 := HI1.out.c0
    have x1 := HI1.out.c1
    have x2 := HI1.out.c2
    have x3 := HI1.out.c3
    have x4 := HI1.out.c4
    go_wp2_with fail
    refine (HG.out _ (HL.out.below HI1.out.below (Nat.le_refl _)) (HH.out.below HI1.out.below (Nat.le_refl _))).mono ?_
    intro e w6 hG
    obtain ⟨a', c', rfl, hown, hB8⟩ := hG.wide HI1.out.below
    have HO := Lib.hid hown
    clear hown hG
    go_wp2_with fail
    go_ret2
    exact ⟨a', c', rfl, HO.out, hB8⟩
  · rw [show ofA lo hi out mn mx = [] by unfold ofA; rw [if_neg hv]]
    have hz1 : (vcon lo hi out mn mx != 0) = true := by simpa using hv
    have hz2 : (vcon lo hi out mn mx == 0) = false := by simpa using hv
    generalize vcon lo hi out mn mx = V at *
    clear hv hl hh
    have x0 := HI.out.c0
    have x1 := HI.out.c1
    have x2 := HI.out.c2
    have x3 := HI.out.c3
    have x4 := HI.out.c4
    go_enter Try.func38, Try.ntmps38
    go_wp2_with fail
    refine (HV.out _ (HL.out.below HI.out.below (Nat.le_refl _)) (HH.out.below HI.out.below (Nat.le_refl _))).mono ?_
    rintro e w1 ⟨rfl, hB⟩
    have HB6 := Lib.hid (HI.out.low hB).below
    clear hB x0 x1 x2 x3 x4
    go_wp2_with fail
    go_ret2
    exact givesRgE_nil HB6.out

end Go.Proofs.Ytmpghapfldjfeaa
