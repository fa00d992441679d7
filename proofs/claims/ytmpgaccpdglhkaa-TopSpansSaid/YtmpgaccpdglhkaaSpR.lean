/- Several texts in one. -/
import Derived.Test.YtmpgaccpdglhkaaSpN
import Derived.Test.YtmpgaccpdglhkaaGdB
import Derived.Test.YtmpgaccpdglhkaaExtD
/- validateContract, proves, Proves, Verdict of span: contracts. -/
set_option linter.unusedVariables false
set_option linter.unusedSimpArgs false
namespace Go.Proofs.Ytmpgaccpdglhkaa
open Go.RowKit Tinker

set_option maxRecDepth 100000 in
set_option maxHeartbeats 2000000 in
theorem svalC_any (a a1 b1 : Option Addr) (ca c1 c2 : Nat) (ps : List L) (lo hi : List Int) (out mn mx : Int) (w : World) (hp : LinesAt w a ps) (hl : IntsAt w a1 lo) (hh : IntsAt w b1 hi) (hm : lo.length ≤ 1000) (hm2 : hi.length ≤ 1000) :
    Calls Try.prog 54 #[.slice a ps.length ca, .agg #[.slice a1 lo.length c1, .slice b1 hi.length c2, .int .i64 out, .int .i64 mn, .int .i64 mx]] w fun e w' => e = .returned (.int .i64 (vpc ps lo hi out mn mx)) ∧ Below w.heap.size w w' := by
  have hI := (boxC_new (a := a1) (b := b1) (n := lo.length) (m := hi.length) (ca := c1) (cb := c2) (out := out) (mn := mn) (mx := mx) w)
  have H1 := Lib.hid (fun w h => validate_any a ca ps w h)
  have H2 := Lib.hid (fun w hl hh => validateContract_C a1 b1 c1 c2 lo hi out mn mx w hl hh hm hm2)
  have x0 := hI.c0
  have x1 := hI.c1
  have x2 := hI.c2
  have x3 := hI.c3
  have x4 := hI.c4
  have HP := Lib.hid hp
  have HL := Lib.hid hl
  have HH := Lib.hid hh
  unfold vpc
  generalize vp ps = v1 at H1
  generalize vcon lo hi out mn mx = v2 at H2
  clear hp hl hh hm hm2
  go_enter Try.func54, Try.ntmps54
  go_wp2_with fail
  replace hI := hI.low ((Below.refl _ _).drew)
  clear x0 x1 x2 x3 x4
  have x0 := hI.c0
  have x1 := hI.c1
  have x2 := hI.c2
  have x3 := hI.c3
  have x4 := hI.c4
  go_region_with (first | (go_at_call 83; refine (H1.out _ ?_).mono ?_; exact HP.out.below hI.below (Nat.le_refl _); rintro e wa ⟨rfl, hBa⟩; replace hI := hI.low hBa; clear hBa x0 x1 x2 x3 x4; have x0 := hI.c0; have x1 := hI.c1; have x2 := hI.c2; have x3 := hI.c3; have x4 := hI.c4) | (go_at_call 70; refine (H2.out _ ?_ ?_).mono ?_; exact HL.out.below hI.below (Nat.le_refl _); exact HH.out.below hI.below (Nat.le_refl _); rintro e wb ⟨rfl, hBb⟩; replace hI := hI.low hBb; clear hBb x0 x1 x2 x3 x4; have x0 := hI.c0; have x1 := hI.c1; have x2 := hI.c2; have x3 := hI.c3; have x4 := hI.c4) | (go_at_call 60; refine (firstError_two _ _ _ _).mono ?_; rintro e wc ⟨rfl, rfl⟩))
  all_goals go_wp2_with fail
  all_goals go_ret
  all_goals exact ⟨rfl, (hI.low ((Below.refl _ _).alloc (Nat.le_refl _) _)).below⟩

/-- Whether spans from a box prove a contract. -/
def pvB (ps : List L) (b : List Rg) (out mn mx : Int) : Bool := subG (gAt (endB ps b) out) ⟨mn, mx⟩
theorem ixBout (x0 x1 x2 x3 : Rg) {n : Int} (h0 : 0 ≤ n) (h3 : n ≤ 3) (w : World) : (Instr.index 69 (.agg #[.int .i64 x0.lo, .int .i64 x0.hi, .int .i64 x1.lo, .int .i64 x1.hi, .int .i64 x2.lo, .int .i64 x2.hi, .int .i64 x3.lo, .int .i64 x3.hi]) (.int .i64 n)).run Try.prog w = .ok (.agg #[.int .i64 (gAt [x0, x1, x2, x3] n).lo, .int .i64 (gAt [x0, x1, x2, x3] n).hi]) w := by
  rcases (show n = 0 ∨ n = 1 ∨ n = 2 ∨ n = 3 by omega) with rfl | rfl | rfl | rfl
  · exact ixB0 _ _ _ _ _ _ _ _ w
  · exact ixB1 _ _ _ _ _ _ _ _ w
  · exact ixB2 _ _ _ _ _ _ _ _ w
  · exact ixB3 _ _ _ _ _ _ _ _ w

set_option maxRecDepth 100000 in
set_option maxHeartbeats 2000000 in
theorem sproves_any (a a1 b1 : Option Addr) (ca c1 c2 n1 n2 : Nat) (ps : List L) (b : List Rg) (out mn mx : Int) (w : World) (hp : LinesAt w a ps) (hv : vp ps = 0) (hb : OkB b) (ho : isReg out = true) :
    Calls Try.prog 55 #[.slice a ps.length ca, bx b, .agg #[.slice a1 n1 c1, .slice b1 n2 c2, .int .i64 out, .int .i64 mn, .int .i64 mx]] w fun e w' => e = .returned (.bool (pvB ps b out mn mx)) ∧ Below w.heap.size w w' := by
  obtain ⟨h8, hvl⟩ := vp_ok hv
  obtain ⟨o0, o3⟩ := isReg_iff.1 ho
  have HE := Lib.hid (fun w hp => send_any a ca ps b w hp hv hb)
  have k4 := (end_ok hvl hb).l4
  have h4 := hb.l4
  have HP := Lib.hid hp
  unfold pvB
  generalize endB ps b = y at *
  obtain ⟨y0, y1, y2, y3, rfl⟩ := rg_list4 k4
  obtain ⟨x0, x1, x2, x3, rfl⟩ := rg_list4 h4
  have hix := ixBout y0 y1 y2 y3 o0 o3
  have HWI := Lib.hid (fun w => ivWithin_any (gAt [y0, y1, y2, y3] out) ⟨mn, mx⟩ w)
  unfold gv at HWI
  rw [bx_4] at HE ⊢
  rw [bx_4] at HE
  generalize gAt [y0, y1, y2, y3] out = yo at *
  clear hp hv hb ho h8 hvl k4 h4
  have HBXC := Lib.hid (show ((w.alloc (.cells #[.int .i64 x0.lo, .int .i64 x0.hi, .int .i64 x1.lo, .int .i64 x1.hi, .int .i64 x2.lo, .int .i64 x2.hi, .int .i64 x3.lo, .int .i64 x3.hi] 69)).alloc (.cells #[.slice a1 n1 c1, .slice b1 n2 c2, .int .i64 out, .int .i64 mn, .int .i64 mx] 40)).heap[w.heap.size]? = _ from hp_alloc (hp_new rfl))
  have HCN := Lib.hid (show ((w.alloc (.cells #[.int .i64 x0.lo, .int .i64 x0.hi, .int .i64 x1.lo, .int .i64 x1.hi, .int .i64 x2.lo, .int .i64 x2.hi, .int .i64 x3.lo, .int .i64 x3.hi] 69)).alloc (.cells #[.slice a1 n1 c1, .slice b1 n2 c2, .int .i64 out, .int .i64 mn, .int .i64 mx] 40)).heap[w.heap.size + 1]? = _ from hp_new (by simp))
  have HB0 := Lib.hid (((Below.refl w.heap.size w).alloc (Nat.le_refl _) (.cells #[.int .i64 x0.lo, .int .i64 x0.hi, .int .i64 x1.lo, .int .i64 x1.hi, .int .i64 x2.lo, .int .i64 x2.hi, .int .i64 x3.lo, .int .i64 x3.hi] 69)).alloc (by simp) (.cells #[.slice a1 n1 c1, .slice b1 n2 c2, .int .i64 out, .int .i64 mn, .int .i64 mx] 40))
  go_enter Try.func55, Try.ntmps55
  go_wp2_with fail
  generalize World.alloc (World.alloc w _) _ = W0 at *
  refine wp_region_held_drew (S := (fun W => Below W0.heap.size W0 W)) (by kernel_rfl) ?_ (fun hHeld => ?_)
  · exact (Below.refl _ _).drew
  generalize World.drew W0 = Wd at *
  refine wpAnyH_take (i := 0) (oi := ?oiq1) (v := ?vq1) ?hiq1 (by kernel_rfl) (by kernel_rfl) (by kernel_rfl) ?hqq1 ?hyq1 hHeld ?restq1
  case hiq1 => exact rfl
  case hqq1 => exact fun _ _ _ h => h
  case hyq1 =>
    refine Or.inl ⟨by rfl, ?_⟩
    intro w hSw
    go_simp
    (try with_reducible rfl)
  try simp only [Act.put, List.getElem_toArray, List.getElem_cons_succ, List.getElem_cons_zero, List.setIfInBounds_toArray, List.set_cons_zero, List.set_cons_succ]
  refine wpAnyH_take (i := 1) (oi := ?oiq2) (v := ?vq2) ?hiq2 (by kernel_rfl) (by kernel_rfl) (by kernel_rfl) ?hqq2 ?hyq2 hHeld ?restq2
  case hiq2 => exact rfl
  case hqq2 => exact fun _ _ _ h => h
  case hyq2 =>
    refine Or.inl ⟨by rfl, ?_⟩
    intro w hSw
    have z := hp_below HBXC.out hSw (hp_lt HBXC.out)
    have z0 := hp_cell z (j := 0) rfl
    have z1 := hp_cell z (j := 1) rfl
    have z2 := hp_cell z (j := 2) rfl
    have z3 := hp_cell z (j := 3) rfl
    have z4 := hp_cell z (j := 4) rfl
    have z5 := hp_cell z (j := 5) rfl
    have z6 := hp_cell z (j := 6) rfl
    have z7 := hp_cell z (j := 7) rfl
    clear z
    go_simp
    (try with_reducible rfl)
  try simp only [Act.put, List.getElem_toArray, List.getElem_cons_succ, List.getElem_cons_zero, List.setIfInBounds_toArray, List.set_cons_zero, List.set_cons_succ]
  refine wpAnyH_take (i := 3) (oi := ?oiq3) (v := ?vq3) ?hiq3 (by kernel_rfl) (by kernel_rfl) (by kernel_rfl) ?hqq3 ?hyq3 hHeld ?restq3
  case hiq3 => exact rfl
  case hqq3 => exact fun _ _ _ h => h
  case hyq3 =>
    refine Or.inl ⟨by rfl, ?_⟩
    intro w hSw
    go_simp
    (try with_reducible rfl)
  try simp only [Act.put, List.getElem_toArray, List.getElem_cons_succ, List.getElem_cons_zero, List.setIfInBounds_toArray, List.set_cons_zero, List.set_cons_succ]
  refine wpAnyH_take (i := 4) (oi := ?oiq4) (v := (.int .i64 out)) ?hiq4 (by kernel_rfl) (by kernel_rfl) (by kernel_rfl) ?hqq4 ?hyq4 hHeld ?restq4
  case hiq4 => exact rfl
  case hqq4 => exact fun _ _ _ h => h
  case hyq4 =>
    refine Or.inl ⟨by rfl, ?_⟩
    intro w hSw
    have z := hp_below HCN.out hSw (hp_lt HCN.out)
    have z2 := hp_cell z (j := 2) rfl
    clear z
    go_simp
    (try with_reducible rfl)
  try simp only [Act.put, List.getElem_toArray, List.getElem_cons_succ, List.getElem_cons_zero, List.setIfInBounds_toArray, List.set_cons_zero, List.set_cons_succ]
  refine wpAnyH_take (i := 6) (oi := ?oiq5) (v := ?vq5) ?hiq5 (by kernel_rfl) (by kernel_rfl) (by kernel_rfl) ?hqq5 ?hyq5 hHeld ?restq5
  case hiq5 => exact rfl
  case hqq5 => exact fun _ _ _ h => h
  case hyq5 =>
    refine Or.inl ⟨by rfl, ?_⟩
    intro w hSw
    go_simp
    (try with_reducible rfl)
  try simp only [Act.put, List.getElem_toArray, List.getElem_cons_succ, List.getElem_cons_zero, List.setIfInBounds_toArray, List.set_cons_zero, List.set_cons_succ]
  refine wpAnyH_take (i := 7) (oi := ?oiq6) (v := (.int .i64 mn)) ?hiq6 (by kernel_rfl) (by kernel_rfl) (by kernel_rfl) ?hqq6 ?hyq6 hHeld ?restq6
  case hiq6 => exact rfl
  case hqq6 => exact fun _ _ _ h => h
  case hyq6 =>
    refine Or.inl ⟨by rfl, ?_⟩
    intro w hSw
    have z := hp_below HCN.out hSw (hp_lt HCN.out)
    have z3 := hp_cell z (j := 3) rfl
    clear z
    go_simp
    (try with_reducible rfl)
  try simp only [Act.put, List.getElem_toArray, List.getElem_cons_succ, List.getElem_cons_zero, List.setIfInBounds_toArray, List.set_cons_zero, List.set_cons_succ]
  refine wpAnyH_take (i := 8) (oi := ?oiq7) (v := ?vq7) ?hiq7 (by kernel_rfl) (by kernel_rfl) (by kernel_rfl) ?hqq7 ?hyq7 hHeld ?restq7
  case hiq7 => exact rfl
  case hqq7 => exact fun _ _ _ h => h
  case hyq7 =>
    refine Or.inl ⟨by rfl, ?_⟩
    intro w hSw
    go_simp
    (try with_reducible rfl)
  try simp only [Act.put, List.getElem_toArray, List.getElem_cons_succ, List.getElem_cons_zero, List.setIfInBounds_toArray, List.set_cons_zero, List.set_cons_succ]
  refine wpAnyH_take (i := 9) (oi := ?oiq8) (v := (.int .i64 mx)) ?hiq8 (by kernel_rfl) (by kernel_rfl) (by kernel_rfl) ?hqq8 ?hyq8 hHeld ?restq8
  case hiq8 => exact rfl
  case hqq8 => exact fun _ _ _ h => h
  case hyq8 =>
    refine Or.inl ⟨by rfl, ?_⟩
    intro w hSw
    have z := hp_below HCN.out hSw (hp_lt HCN.out)
    have z4 := hp_cell z (j := 4) rfl
    clear z
    go_simp
    (try with_reducible rfl)
  try simp only [Act.put, List.getElem_toArray, List.getElem_cons_succ, List.getElem_cons_zero, List.setIfInBounds_toArray, List.set_cons_zero, List.set_cons_succ]
  refine wpAnyH_take (i := 10) (oi := ?oiq9) (v := ?vq9) ?hiq9 (by kernel_rfl) (by kernel_rfl) (by kernel_rfl) ?hqq9 ?hyq9 hHeld ?restq9
  case hiq9 => exact rfl
  case hqq9 => exact fun _ _ _ h => h
  case hyq9 =>
    refine Or.inl ⟨by rfl, ?_⟩
    intro w hSw
    go_simp
    (try with_reducible rfl)
  try simp only [Act.put, List.getElem_toArray, List.getElem_cons_succ, List.getElem_cons_zero, List.setIfInBounds_toArray, List.set_cons_zero, List.set_cons_succ]
  refine wpAnyH_ready (rs := [2]) (by kernel_rfl) (by simp) ?_
  refine AllReadyH.cons (o := ?or13_2) ?hr13_2 ?kr13_2 AllReadyH.nil
  case hr13_2 => exact rfl
  case kr13_2 =>
    intro K hK
    go_simp
    refine (HE.out _ (HP.out.below (HB0.out.trans (hHeld.mono HB0.out.size)) (Nat.le_refl _))).mono ?_
    rintro e w8 ⟨rfl, hB8⟩
    refine hK.out _ _ (hHeld.trans (hB8.mono hHeld.size)) (fun hHeld => ?_)
    clear hK K
    try simp only [Act.put, List.getElem_toArray, List.getElem_cons_succ, List.getElem_cons_zero, List.setIfInBounds_toArray, List.set_cons_zero, List.set_cons_succ]
    refine wpAnyH_take (i := 5) (oi := ?oiq11) (v := ?vq11) ?hiq11 (by kernel_rfl) (by kernel_rfl) (by kernel_rfl) ?hqq11 ?hyq11 hHeld ?restq11
    case hiq11 => exact rfl
    case hqq11 => exact fun _ _ _ h => h
    case hyq11 =>
      refine Or.inl ⟨by rfl, ?_⟩
      intro w hSw
      go_simp
      (try with_reducible rfl)
    try simp only [Act.put, List.getElem_toArray, List.getElem_cons_succ, List.getElem_cons_zero, List.setIfInBounds_toArray, List.set_cons_zero, List.set_cons_succ]
    refine wpAnyH_ready (rs := [11]) (by kernel_rfl) (by simp) ?_
    refine AllReadyH.cons (o := ?or12_11) ?hr12_11 ?kr12_11 AllReadyH.nil
    case hr12_11 => exact rfl
    case kr12_11 =>
      intro K hK
      go_simp
      refine (HWI.out _).mono ?_
      rintro e w9 ⟨rfl, hB9⟩
      refine hK.out _ _ (hHeld.trans (hB9.mono hHeld.size)) (fun hHeld => ?_)
      clear hK K
      try simp only [Act.put, List.getElem_toArray, List.getElem_cons_succ, List.getElem_cons_zero, List.setIfInBounds_toArray, List.set_cons_zero, List.set_cons_succ]
      refine wpAnyH_take (i := 12) (oi := ?oiq10) (v := ?vq10) ?hiq10 (by kernel_rfl) (by kernel_rfl) (by kernel_rfl) ?hqq10 ?hyq10 hHeld ?restq10
      case hiq10 => exact rfl
      case hqq10 => exact fun _ _ _ h => h
      case hyq10 =>
        refine Or.inl ⟨by rfl, ?_⟩
        intro w hSw
        go_simp
        (try with_reducible rfl)
      try simp only [Act.put, List.getElem_toArray, List.getElem_cons_succ, List.getElem_cons_zero, List.setIfInBounds_toArray, List.set_cons_zero, List.set_cons_succ]
      have HBF := Lib.hid (HB0.out.trans (hHeld.mono HB0.out.size))
      refine wpAnyH_done (by kernel_rfl) ?_ _
      clear hHeld
      go_wp2_with fail
      go_ret
      exact ⟨rfl, HBF.out⟩

/-- What Proves answers. -/
def pvA (ps : List L) (lo hi : List Int) (out mn mx : Int) : Bool := if vpc ps lo hi out mn mx = 0 then pvB ps (conB lo hi) out mn mx else false
theorem okB_conQ {lo hi : List Int} (h1 : vs lo = 0) (h2 : vs hi = 0) (h3 : leTo lo hi 4 = true) : OkB (conB lo hi) := by
  have h4 := (vs_ok h1).1
  have k4 := (vs_ok h2).1
  rw [okB_iff (by unfold conB; rw [List.length_zipWith, h4, k4]; rfl)]
  intro k hk
  obtain ⟨x, hx⟩ := get_of_lt (show k < lo.length by omega)
  obtain ⟨y, hy⟩ := get_of_lt (show k < hi.length by omega)
  have g1 := getD_vs h1 hk
  have g2 := getD_vs h2 hk
  have g3 := leTo_le h3 hk
  rw [getD_of_get hx] at g1 g3
  rw [getD_of_get hy] at g2 g3
  rw [getD_of_get (show (conB lo hi)[k]? = some ⟨x, y⟩ by unfold conB; rw [List.getElem?_zipWith, hx, hy]), okG_iff]
  exact ⟨g1, g2, g3⟩
theorem okB_conV {lo hi : List Int} {out mn mx : Int} (h : vcon lo hi out mn mx = 0) : OkB (conB lo hi) := by
  obtain ⟨q1, q2, q3, _⟩ := isCon_ok (vcon_ok h).1
  exact okB_conQ q1 q2 q3

end Go.Proofs.Ytmpgaccpdglhkaa

/- Proves, Verdict of span: contracts. -/
set_option linter.unusedVariables false
set_option linter.unusedSimpArgs false
namespace Go.Proofs.Ytmpgaccpdglhkaa
open Go.RowKit Tinker

set_option maxRecDepth 100000 in
set_option maxHeartbeats 2000000 in
theorem sProves_any (a a1 b1 : Option Addr) (ca c1 c2 : Nat) (ps : List L) (lo hi : List Int) (out mn mx : Int) (w : World) (hp : LinesAt w a ps) (hl : IntsAt w a1 lo) (hh : IntsAt w b1 hi) (hm : lo.length ≤ 1000) (hm2 : hi.length ≤ 1000) :
    Calls Try.prog 22 #[.slice a ps.length ca, .agg #[.slice a1 lo.length c1, .slice b1 hi.length c2, .int .i64 out, .int .i64 mn, .int .i64 mx]] w fun e w' => e = .returned (.tuple #[.bool (pvA ps lo hi out mn mx), .int .i64 (vpc ps lo hi out mn mx)]) ∧ Below w.heap.size w w' := by
  have HI := Lib.hid (boxC_new (a := a1) (b := b1) (n := lo.length) (m := hi.length) (ca := c1) (cb := c2) (out := out) (mn := mn) (mx := mx) w)
  have HV := Lib.hid (fun w hp hl hh => svalC_any a a1 b1 ca c1 c2 ps lo hi out mn mx w hp hl hh hm hm2)
  have HP := Lib.hid hp
  have HL := Lib.hid hl
  have HH := Lib.hid hh
  by_cases hz : vpc ps lo hi out mn mx = 0
  · obtain ⟨z1, z2⟩ := vpc_ok hz
    have hcon := (vcon_ok z2).1
    obtain ⟨q1, q2, q3, q4, q5, q6, q7⟩ := isCon_ok hcon
    have h4 := (vs_ok q1).1
    have k4 := (vs_ok q2).1
    have hok := okB_conV z2
    have HBO := Lib.hid (fun w h1 h2 => boxBetween_any a1 b1 c1 c2 lo hi w h1 h2 h4 k4)
    have HPV := Lib.hid (fun w hp => sproves_any a a1 b1 ca c1 c2 4 4 ps (conB lo hi) out mn mx w hp z1 hok q4)
    rw [hz, h4, k4] at HV
    rw [h4, k4] at HI
    rw [h4, k4]
    rw [show pvA ps lo hi out mn mx = pvB ps (conB lo hi) out mn mx by unfold pvA; rw [if_pos hz], hz]
    generalize pvB ps (conB lo hi) out mn mx = V at *
    generalize conB lo hi = B at *
    obtain ⟨b0, b1', b2', b3', rfl⟩ := rg_list4 hok.l4
    rw [bx_4] at HPV HBO
    clear hz z1 z2 hcon q1 q2 q3 q4 q5 q6 q7 h4 k4 hok hp hl hh hm hm2
    have x0 := HI.out.c0
    have x1 := HI.out.c1
    have x2 := HI.out.c2
    have x3 := HI.out.c3
    have x4 := HI.out.c4
    go_enter Try.func22, Try.ntmps22
    go_wp2_with fail
    refine (HV.out _ (HP.out.below HI.out.below (Nat.le_refl _)) (HL.out.below HI.out.below (Nat.le_refl _)) (HH.out.below HI.out.below (Nat.le_refl _))).mono ?_
    rintro e w1 ⟨rfl, hB⟩
    have HI1 := Lib.hid (HI.out.low hB)
    clear HI hB x0 x1 x2 x3 x4
    have x0 := HI1.out.c0
    have x1 := HI1.out.c1
    have x2 := HI1.out.c2
    have x3 := HI1.out.c3
    have x4 := HI1.out.c4
    go_wp2_with fail
    clear x0 x1 x2 x3 x4
    refine wp_region_held_drew (S := (fun W => BoxC w.heap.size a1 b1 4 4 c1 c2 out mn mx w W)) (by kernel_rfl) ?_ (fun hHeld => ?_)
    · exact HI1.out.drew
    generalize World.drew w1 = Wd at *
    refine wpAnyH_take (i := 0) (oi := ?oiq16) (v := ?vq16) ?hiq16 (by kernel_rfl) (by kernel_rfl) (by kernel_rfl) ?hqq16 ?hyq16 hHeld ?restq16
    case hiq16 => exact rfl
    case hqq16 => exact fun _ _ _ h => h
    case hyq16 =>
      refine Or.inl ⟨by rfl, ?_⟩
      intro w hSw
      go_simp
      (try with_reducible rfl)
    try simp only [Act.put, List.getElem_toArray, List.getElem_cons_succ, List.getElem_cons_zero, List.setIfInBounds_toArray, List.set_cons_zero, List.set_cons_succ]
    refine wpAnyH_take (i := 1) (oi := ?oiq17) (v := ?vq17) ?hiq17 (by kernel_rfl) (by kernel_rfl) (by kernel_rfl) ?hqq17 ?hyq17 hHeld ?restq17
    case hiq17 => exact rfl
    case hqq17 => exact fun _ _ _ h => h
    case hyq17 =>
      refine Or.inl ⟨by rfl, ?_⟩
      intro w hSw
      go_simp
      (try with_reducible rfl)
    try simp only [Act.put, List.getElem_toArray, List.getElem_cons_succ, List.getElem_cons_zero, List.setIfInBounds_toArray, List.set_cons_zero, List.set_cons_succ]
    refine wpAnyH_take (i := 2) (oi := ?oiq18) (v := (.slice a1 4 c1)) ?hiq18 (by kernel_rfl) (by kernel_rfl) (by kernel_rfl) ?hqq18 ?hyq18 hHeld ?restq18
    case hiq18 => exact rfl
    case hqq18 => exact fun _ _ _ h => h
    case hyq18 =>
      refine Or.inl ⟨by rfl, ?_⟩
      intro w hSw
      have z0 := hSw.c0
      go_simp
      (try with_reducible rfl)
    try simp only [Act.put, List.getElem_toArray, List.getElem_cons_succ, List.getElem_cons_zero, List.setIfInBounds_toArray, List.set_cons_zero, List.set_cons_succ]
    refine wpAnyH_take (i := 3) (oi := ?oiq19) (v := ?vq19) ?hiq19 (by kernel_rfl) (by kernel_rfl) (by kernel_rfl) ?hqq19 ?hyq19 hHeld ?restq19
    case hiq19 => exact rfl
    case hqq19 => exact fun _ _ _ h => h
    case hyq19 =>
      refine Or.inl ⟨by rfl, ?_⟩
      intro w hSw
      go_simp
      (try with_reducible rfl)
    try simp only [Act.put, List.getElem_toArray, List.getElem_cons_succ, List.getElem_cons_zero, List.setIfInBounds_toArray, List.set_cons_zero, List.set_cons_succ]
    refine wpAnyH_take (i := 4) (oi := ?oiq20) (v := (.slice b1 4 c2)) ?hiq20 (by kernel_rfl) (by kernel_rfl) (by kernel_rfl) ?hqq20 ?hyq20 hHeld ?restq20
    case hiq20 => exact rfl
    case hqq20 => exact fun _ _ _ h => h
    case hyq20 =>
      refine Or.inl ⟨by rfl, ?_⟩
      intro w hSw
      have z1 := hSw.c1
      go_simp
      (try with_reducible rfl)
    try simp only [Act.put, List.getElem_toArray, List.getElem_cons_succ, List.getElem_cons_zero, List.setIfInBounds_toArray, List.set_cons_zero, List.set_cons_succ]
    refine wpAnyH_take (i := 6) (oi := ?oiq21) (v := ?vq21) ?hiq21 (by kernel_rfl) (by kernel_rfl) (by kernel_rfl) ?hqq21 ?hyq21 hHeld ?restq21
    case hiq21 => exact rfl
    case hqq21 => exact fun _ _ _ h => h
    case hyq21 =>
      refine Or.inl ⟨by rfl, ?_⟩
      intro w hSw
      have z0 := hSw.c0
      have z1 := hSw.c1
      have z2 := hSw.c2
      have z3 := hSw.c3
      have z4 := hSw.c4
      go_simp
      (try with_reducible rfl)
    try simp only [Act.put, List.getElem_toArray, List.getElem_cons_succ, List.getElem_cons_zero, List.setIfInBounds_toArray, List.set_cons_zero, List.set_cons_succ]
    refine wpAnyH_ready (rs := [5]) (by kernel_rfl) (by simp) ?_
    refine AllReadyH.cons (o := ?or23_5) ?hr23_5 ?kr23_5 AllReadyH.nil
    case hr23_5 => exact rfl
    case kr23_5 =>
      intro K hK
      go_simp
      refine (HBO.out _ (HL.out.below hHeld.below (Nat.le_refl _)) (HH.out.below hHeld.below (Nat.le_refl _))).mono ?_
      rintro e w8 ⟨rfl, hB8⟩
      refine hK.out _ _ (hHeld.low hB8) (fun hHeld => ?_)
      clear hK K
      try simp only [Act.put, List.getElem_toArray, List.getElem_cons_succ, List.getElem_cons_zero, List.setIfInBounds_toArray, List.set_cons_zero, List.set_cons_succ]
      refine wpAnyH_ready (rs := [7]) (by kernel_rfl) (by simp) ?_
      refine AllReadyH.cons (o := ?or22_7) ?hr22_7 ?kr22_7 AllReadyH.nil
      case hr22_7 => exact rfl
      case kr22_7 =>
        intro K hK
        go_simp
        refine (HPV.out _ (HP.out.below hHeld.below (Nat.le_refl _))).mono ?_
        rintro e w9 ⟨rfl, hB9⟩
        refine hK.out _ _ (hHeld.low hB9) (fun hHeld => ?_)
        clear hK K
        try simp only [Act.put, List.getElem_toArray, List.getElem_cons_succ, List.getElem_cons_zero, List.setIfInBounds_toArray, List.set_cons_zero, List.set_cons_succ]
        refine wpAnyH_take (i := 8) (oi := ?oiq14) (v := ?vq14) ?hiq14 (by kernel_rfl) (by kernel_rfl) (by kernel_rfl) ?hqq14 ?hyq14 hHeld ?restq14
        case hiq14 => exact rfl
        case hqq14 => exact fun _ _ _ h => h
        case hyq14 =>
          refine Or.inl ⟨by rfl, ?_⟩
          intro w hSw
          go_simp
          (try with_reducible rfl)
        try simp only [Act.put, List.getElem_toArray, List.getElem_cons_succ, List.getElem_cons_zero, List.setIfInBounds_toArray, List.set_cons_zero, List.set_cons_succ]
        refine wpAnyH_take (i := 9) (oi := ?oiq15) (v := ?vq15) ?hiq15 (by kernel_rfl) (by kernel_rfl) (by kernel_rfl) ?hqq15 ?hyq15 hHeld ?restq15
        case hiq15 => exact rfl
        case hqq15 => exact fun _ _ _ h => h
        case hyq15 =>
          refine Or.inl ⟨by rfl, ?_⟩
          intro w hSw
          go_simp
          (try with_reducible rfl)
        try simp only [Act.put, List.getElem_toArray, List.getElem_cons_succ, List.getElem_cons_zero, List.setIfInBounds_toArray, List.set_cons_zero, List.set_cons_succ]
        have HBF := Lib.hid hHeld.below
        refine wpAnyH_done (by kernel_rfl) ?_ _
        clear hHeld
        go_wp2_with fail
        go_ret2
        exact ⟨rfl, HBF.out⟩
  · have hz1 : (vpc ps lo hi out mn mx != 0) = true := by simpa using hz
    have hz2 : (vpc ps lo hi out mn mx == 0) = false := by simpa using hz
    rw [show pvA ps lo hi out mn mx = false by unfold pvA; rw [if_neg hz]]
    generalize vpc ps lo hi out mn mx = c at *
    clear hz hp hl hh hm hm2
    have x0 := HI.out.c0
    have x1 := HI.out.c1
    have x2 := HI.out.c2
    have x3 := HI.out.c3
    have x4 := HI.out.c4
    go_enter Try.func22, Try.ntmps22
    go_wp2_with fail
    refine (HV.out _ (HP.out.below HI.out.below (Nat.le_refl _)) (HL.out.below HI.out.below (Nat.le_refl _)) (HH.out.below HI.out.below (Nat.le_refl _))).mono ?_
    rintro e w1 ⟨rfl, hB⟩
    have HI1 := Lib.hid (HI.out.low hB)
    clear HI hB x0 x1 x2 x3 x4
    go_wp2_with fail
    go_ret2
    exact ⟨rfl, HI1.out.below⟩

/-- What Verdict answers. -/
def vdA (ps : List L) (lo hi : List Int) (out mn mx : Int) : Int := if vpc ps lo hi out mn mx = 0 then (if pvB ps (conB lo hi) out mn mx then 1 else if kpB ps lo hi out mn mx then 0 else -1) else 0

set_option maxRecDepth 100000 in
set_option maxHeartbeats 4000000 in
theorem sVerdict_any (a a1 b1 : Option Addr) (ca c1 c2 : Nat) (ps : List L) (lo hi : List Int) (out mn mx : Int) (w : World) (hp : LinesAt w a ps) (hl : IntsAt w a1 lo) (hh : IntsAt w b1 hi) (hm : lo.length ≤ 1000) (hm2 : hi.length ≤ 1000) :
    Calls Try.prog 31 #[.slice a ps.length ca, .agg #[.slice a1 lo.length c1, .slice b1 hi.length c2, .int .i64 out, .int .i64 mn, .int .i64 mx]] w fun e w' => e = .returned (.tuple #[.int .i64 (vdA ps lo hi out mn mx), .int .i64 (vpc ps lo hi out mn mx)]) ∧ Below w.heap.size w w' := by
  have HI := Lib.hid (boxC_new (a := a1) (b := b1) (n := lo.length) (m := hi.length) (ca := c1) (cb := c2) (out := out) (mn := mn) (mx := mx) w)
  have HV := Lib.hid (fun w hp hl hh => svalC_any a a1 b1 ca c1 c2 ps lo hi out mn mx w hp hl hh hm hm2)
  have HP := Lib.hid hp
  have HL := Lib.hid hl
  have HH := Lib.hid hh
  by_cases hz : vpc ps lo hi out mn mx = 0
  · obtain ⟨z1, z2⟩ := vpc_ok hz
    have hcon := (vcon_ok z2).1
    obtain ⟨q1, q2, q3, q4, q5, q6, q7⟩ := isCon_ok hcon
    have h4 := (vs_ok q1).1
    have k4 := (vs_ok q2).1
    have hok := okB_conV z2
    have HBO := Lib.hid (fun w h1 h2 => boxBetween_any a1 b1 c1 c2 lo hi w h1 h2 h4 k4)
    have HPV := Lib.hid (fun w hp => sproves_any a a1 b1 ca c1 c2 4 4 ps (conB lo hi) out mn mx w hp z1 hok q4)
    have HKP := Lib.hid (fun w hp hl hh => keeps_any a a1 b1 ca c1 c2 ps lo hi out mn mx w hp hl hh hm hm2)
    rw [hz, h4, k4] at HKP
    rw [hz, h4, k4] at HV
    rw [h4, k4] at HI
    rw [h4, k4]
    cases hpv : pvB ps (conB lo hi) out mn mx
    · cases hkp : kpB ps lo hi out mn mx
      · have hvd : vdA ps lo hi out mn mx = -1 := by unfold vdA; rw [if_pos hz, hpv, hkp]; rfl
        rw [hvd, hz]
        rw [hpv] at HPV
        generalize conB lo hi = B at *
        obtain ⟨b0, b1', b2', b3', rfl⟩ := rg_list4 hok.l4
        rw [bx_4] at HPV HBO
        rw [hkp] at HKP
        clear hpv hvd hkp
        clear hz z1 z2 hcon q1 q2 q3 q4 q5 q6 q7 h4 k4 hok hp hl hh hm hm2
        have x0 := HI.out.c0
        have x1 := HI.out.c1
        have x2 := HI.out.c2
        have x3 := HI.out.c3
        have x4 := HI.out.c4
        go_enter Try.func31, Try.ntmps31
        go_wp2_with fail
        refine (HV.out _ (HP.out.below HI.out.below (Nat.le_refl _)) (HL.out.below HI.out.below (Nat.le_refl _)) (HH.out.below HI.out.below (Nat.le_refl _))).mono ?_
        rintro e w1 ⟨rfl, hB⟩
        have HI1 := Lib.hid (HI.out.low hB)
        clear HI hB x0 x1 x2 x3 x4
        have x0 := HI1.out.c0
        have x1 := HI1.out.c1
        have x2 := HI1.out.c2
        have x3 := HI1.out.c3
        have x4 := HI1.out.c4
        go_wp2_with fail
        clear x0 x1 x2 x3 x4
        refine wp_region_held_drew (S := (fun W => BoxC w.heap.size a1 b1 4 4 c1 c2 out mn mx w W)) (by kernel_rfl) ?_ (fun hHeld => ?_)
        · exact HI1.out.drew
        generalize World.drew w1 = Wd at *
        refine wpAnyH_take (i := 0) (oi := ?oiq24) (v := ?vq24) ?hiq24 (by kernel_rfl) (by kernel_rfl) (by kernel_rfl) ?hqq24 ?hyq24 hHeld ?restq24
        case hiq24 => exact rfl
        case hqq24 => exact fun _ _ _ h => h
        case hyq24 =>
          refine Or.inl ⟨by rfl, ?_⟩
          intro w hSw
          go_simp
          (try with_reducible rfl)
        try simp only [Act.put, List.getElem_toArray, List.getElem_cons_succ, List.getElem_cons_zero, List.setIfInBounds_toArray, List.set_cons_zero, List.set_cons_succ]
        refine wpAnyH_take (i := 1) (oi := ?oiq25) (v := ?vq25) ?hiq25 (by kernel_rfl) (by kernel_rfl) (by kernel_rfl) ?hqq25 ?hyq25 hHeld ?restq25
        case hiq25 => exact rfl
        case hqq25 => exact fun _ _ _ h => h
        case hyq25 =>
          refine Or.inl ⟨by rfl, ?_⟩
          intro w hSw
          go_simp
          (try with_reducible rfl)
        try simp only [Act.put, List.getElem_toArray, List.getElem_cons_succ, List.getElem_cons_zero, List.setIfInBounds_toArray, List.set_cons_zero, List.set_cons_succ]
        refine wpAnyH_take (i := 2) (oi := ?oiq26) (v := (.slice a1 4 c1)) ?hiq26 (by kernel_rfl) (by kernel_rfl) (by kernel_rfl) ?hqq26 ?hyq26 hHeld ?restq26
        case hiq26 => exact rfl
        case hqq26 => exact fun _ _ _ h => h
        case hyq26 =>
          refine Or.inl ⟨by rfl, ?_⟩
          intro w hSw
          have z0 := hSw.c0
          go_simp
          (try with_reducible rfl)
        try simp only [Act.put, List.getElem_toArray, List.getElem_cons_succ, List.getElem_cons_zero, List.setIfInBounds_toArray, List.set_cons_zero, List.set_cons_succ]
        refine wpAnyH_take (i := 3) (oi := ?oiq27) (v := ?vq27) ?hiq27 (by kernel_rfl) (by kernel_rfl) (by kernel_rfl) ?hqq27 ?hyq27 hHeld ?restq27
        case hiq27 => exact rfl
        case hqq27 => exact fun _ _ _ h => h
        case hyq27 =>
          refine Or.inl ⟨by rfl, ?_⟩
          intro w hSw
          go_simp
          (try with_reducible rfl)
        try simp only [Act.put, List.getElem_toArray, List.getElem_cons_succ, List.getElem_cons_zero, List.setIfInBounds_toArray, List.set_cons_zero, List.set_cons_succ]
        refine wpAnyH_take (i := 4) (oi := ?oiq28) (v := (.slice b1 4 c2)) ?hiq28 (by kernel_rfl) (by kernel_rfl) (by kernel_rfl) ?hqq28 ?hyq28 hHeld ?restq28
        case hiq28 => exact rfl
        case hqq28 => exact fun _ _ _ h => h
        case hyq28 =>
          refine Or.inl ⟨by rfl, ?_⟩
          intro w hSw
          have z1 := hSw.c1
          go_simp
          (try with_reducible rfl)
        try simp only [Act.put, List.getElem_toArray, List.getElem_cons_succ, List.getElem_cons_zero, List.setIfInBounds_toArray, List.set_cons_zero, List.set_cons_succ]
        refine wpAnyH_take (i := 6) (oi := ?oiq29) (v := ?vq29) ?hiq29 (by kernel_rfl) (by kernel_rfl) (by kernel_rfl) ?hqq29 ?hyq29 hHeld ?restq29
        case hiq29 => exact rfl
        case hqq29 => exact fun _ _ _ h => h
        case hyq29 =>
          refine Or.inl ⟨by rfl, ?_⟩
          intro w hSw
          have z0 := hSw.c0
          have z1 := hSw.c1
          have z2 := hSw.c2
          have z3 := hSw.c3
          have z4 := hSw.c4
          go_simp
          (try with_reducible rfl)
        try simp only [Act.put, List.getElem_toArray, List.getElem_cons_succ, List.getElem_cons_zero, List.setIfInBounds_toArray, List.set_cons_zero, List.set_cons_succ]
        refine wpAnyH_ready (rs := [5]) (by kernel_rfl) (by simp) ?_
        refine AllReadyH.cons (o := ?or31_5) ?hr31_5 ?kr31_5 AllReadyH.nil
        case hr31_5 => exact rfl
        case kr31_5 =>
          intro K hK
          go_simp
          refine (HBO.out _ (HL.out.below hHeld.below (Nat.le_refl _)) (HH.out.below hHeld.below (Nat.le_refl _))).mono ?_
          rintro e w8 ⟨rfl, hB8⟩
          refine hK.out _ _ (hHeld.low hB8) (fun hHeld => ?_)
          clear hK K
          try simp only [Act.put, List.getElem_toArray, List.getElem_cons_succ, List.getElem_cons_zero, List.setIfInBounds_toArray, List.set_cons_zero, List.set_cons_succ]
          refine wpAnyH_ready (rs := [7]) (by kernel_rfl) (by simp) ?_
          refine AllReadyH.cons (o := ?or30_7) ?hr30_7 ?kr30_7 AllReadyH.nil
          case hr30_7 => exact rfl
          case kr30_7 =>
            intro K hK
            go_simp
            refine (HPV.out _ (HP.out.below hHeld.below (Nat.le_refl _))).mono ?_
            rintro e w9 ⟨rfl, hB9⟩
            refine hK.out _ _ (hHeld.low hB9) (fun hHeld => ?_)
            clear hK K
            try simp only [Act.put, List.getElem_toArray, List.getElem_cons_succ, List.getElem_cons_zero, List.setIfInBounds_toArray, List.set_cons_zero, List.set_cons_succ]
            have HI9 := Lib.hid hHeld
            refine wpAnyH_done (by kernel_rfl) ?_ _
            clear hHeld
            have y0 := HI9.out.c0
            have y1 := HI9.out.c1
            have y2 := HI9.out.c2
            have y3 := HI9.out.c3
            have y4 := HI9.out.c4
            go_wp2_with fail
            refine (HKP.out _ (HP.out.below HI9.out.below (Nat.le_refl _)) (HL.out.below HI9.out.below (Nat.le_refl _)) (HH.out.below HI9.out.below (Nat.le_refl _))).mono ?_
            rintro e w7 ⟨rfl, hB7⟩
            have HB7 := Lib.hid (HI9.out.low hB7).below
            clear hB7 y0 y1 y2 y3 y4
            go_wp2_with fail
            go_ret2
            exact ⟨rfl, HB7.out⟩
      · have hvd : vdA ps lo hi out mn mx = 0 := by unfold vdA; rw [if_pos hz, hpv, hkp]; rfl
        rw [hvd, hz]
        rw [hpv] at HPV
        generalize conB lo hi = B at *
        obtain ⟨b0, b1', b2', b3', rfl⟩ := rg_list4 hok.l4
        rw [bx_4] at HPV HBO
        rw [hkp] at HKP
        clear hpv hvd hkp
        clear hz z1 z2 hcon q1 q2 q3 q4 q5 q6 q7 h4 k4 hok hp hl hh hm hm2
        have x0 := HI.out.c0
        have x1 := HI.out.c1
        have x2 := HI.out.c2
        have x3 := HI.out.c3
        have x4 := HI.out.c4
        go_enter Try.func31, Try.ntmps31
        go_wp2_with fail
        refine (HV.out _ (HP.out.below HI.out.below (Nat.le_refl _)) (HL.out.below HI.out.below (Nat.le_refl _)) (HH.out.below HI.out.below (Nat.le_refl _))).mono ?_
        rintro e w1 ⟨rfl, hB⟩
        have HI1 := Lib.hid (HI.out.low hB)
        clear HI hB x0 x1 x2 x3 x4
        have x0 := HI1.out.c0
        have x1 := HI1.out.c1
        have x2 := HI1.out.c2
        have x3 := HI1.out.c3
        have x4 := HI1.out.c4
        go_wp2_with fail
        clear x0 x1 x2 x3 x4
        refine wp_region_held_drew (S := (fun W => BoxC w.heap.size a1 b1 4 4 c1 c2 out mn mx w W)) (by kernel_rfl) ?_ (fun hHeld => ?_)
        · exact HI1.out.drew
        generalize World.drew w1 = Wd at *
        refine wpAnyH_take (i := 0) (oi := ?oiq32) (v := ?vq32) ?hiq32 (by kernel_rfl) (by kernel_rfl) (by kernel_rfl) ?hqq32 ?hyq32 hHeld ?restq32
        case hiq32 => exact rfl
        case hqq32 => exact fun _ _ _ h => h
        case hyq32 =>
          refine Or.inl ⟨by rfl, ?_⟩
          intro w hSw
          go_simp
          (try with_reducible rfl)
        try simp only [Act.put, List.getElem_toArray, List.getElem_cons_succ, List.getElem_cons_zero, List.setIfInBounds_toArray, List.set_cons_zero, List.set_cons_succ]
        refine wpAnyH_take (i := 1) (oi := ?oiq33) (v := ?vq33) ?hiq33 (by kernel_rfl) (by kernel_rfl) (by kernel_rfl) ?hqq33 ?hyq33 hHeld ?restq33
        case hiq33 => exact rfl
        case hqq33 => exact fun _ _ _ h => h
        case hyq33 =>
          refine Or.inl ⟨by rfl, ?_⟩
          intro w hSw
          go_simp
          (try with_reducible rfl)
        try simp only [Act.put, List.getElem_toArray, List.getElem_cons_succ, List.getElem_cons_zero, List.setIfInBounds_toArray, List.set_cons_zero, List.set_cons_succ]
        refine wpAnyH_take (i := 2) (oi := ?oiq34) (v := (.slice a1 4 c1)) ?hiq34 (by kernel_rfl) (by kernel_rfl) (by kernel_rfl) ?hqq34 ?hyq34 hHeld ?restq34
        case hiq34 => exact rfl
        case hqq34 => exact fun _ _ _ h => h
        case hyq34 =>
          refine Or.inl ⟨by rfl, ?_⟩
          intro w hSw
          have z0 := hSw.c0
          go_simp
          (try with_reducible rfl)
        try simp only [Act.put, List.getElem_toArray, List.getElem_cons_succ, List.getElem_cons_zero, List.setIfInBounds_toArray, List.set_cons_zero, List.set_cons_succ]
        refine wpAnyH_take (i := 3) (oi := ?oiq35) (v := ?vq35) ?hiq35 (by kernel_rfl) (by kernel_rfl) (by kernel_rfl) ?hqq35 ?hyq35 hHeld ?restq35
        case hiq35 => exact rfl
        case hqq35 => exact fun _ _ _ h => h
        case hyq35 =>
          refine Or.inl ⟨by rfl, ?_⟩
          intro w hSw
          go_simp
          (try with_reducible rfl)
        try simp only [Act.put, List.getElem_toArray, List.getElem_cons_succ, List.getElem_cons_zero, List.setIfInBounds_toArray, List.set_cons_zero, List.set_cons_succ]
        refine wpAnyH_take (i := 4) (oi := ?oiq36) (v := (.slice b1 4 c2)) ?hiq36 (by kernel_rfl) (by kernel_rfl) (by kernel_rfl) ?hqq36 ?hyq36 hHeld ?restq36
        case hiq36 => exact rfl
        case hqq36 => exact fun _ _ _ h => h
        case hyq36 =>
          refine Or.inl ⟨by rfl, ?_⟩
          intro w hSw
          have z1 := hSw.c1
          go_simp
          (try with_reducible rfl)
        try simp only [Act.put, List.getElem_toArray, List.getElem_cons_succ, List.getElem_cons_zero, List.setIfInBounds_toArray, List.set_cons_zero, List.set_cons_succ]
        refine wpAnyH_take (i := 6) (oi := ?oiq37) (v := ?vq37) ?hiq37 (by kernel_rfl) (by kernel_rfl) (by kernel_rfl) ?hqq37 ?hyq37 hHeld ?restq37
        case hiq37 => exact rfl
        case hqq37 => exact fun _ _ _ h => h
        case hyq37 =>
          refine Or.inl ⟨by rfl, ?_⟩
          intro w hSw
          have z0 := hSw.c0
          have z1 := hSw.c1
          have z2 := hSw.c2
          have z3 := hSw.c3
          have z4 := hSw.c4
          go_simp
          (try with_reducible rfl)
        try simp only [Act.put, List.getElem_toArray, List.getElem_cons_succ, List.getElem_cons_zero, List.setIfInBounds_toArray, List.set_cons_zero, List.set_cons_succ]
        refine wpAnyH_ready (rs := [5]) (by kernel_rfl) (by simp) ?_
        refine AllReadyH.cons (o := ?or39_5) ?hr39_5 ?kr39_5 AllReadyH.nil
        case hr39_5 => exact rfl
        case kr39_5 =>
          intro K hK
          go_simp
          refine (HBO.out _ (HL.out.below hHeld.below (Nat.le_refl _)) (HH.out.below hHeld.below (Nat.le_refl _))).mono ?_
          rintro e w8 ⟨rfl, hB8⟩
          refine hK.out _ _ (hHeld.low hB8) (fun hHeld => ?_)
          clear hK K
          try simp only [Act.put, List.getElem_toArray, List.getElem_cons_succ, List.getElem_cons_zero, List.setIfInBounds_toArray, List.set_cons_zero, List.set_cons_succ]
          refine wpAnyH_ready (rs := [7]) (by kernel_rfl) (by simp) ?_
          refine AllReadyH.cons (o := ?or38_7) ?hr38_7 ?kr38_7 AllReadyH.nil
          case hr38_7 => exact rfl
          case kr38_7 =>
            intro K hK
            go_simp
            refine (HPV.out _ (HP.out.below hHeld.below (Nat.le_refl _))).mono ?_
            rintro e w9 ⟨rfl, hB9⟩
            refine hK.out _ _ (hHeld.low hB9) (fun hHeld => ?_)
            clear hK K
            try simp only [Act.put, List.getElem_toArray, List.getElem_cons_succ, List.getElem_cons_zero, List.setIfInBounds_toArray, List.set_cons_zero, List.set_cons_succ]
            have HI9 := Lib.hid hHeld
            refine wpAnyH_done (by kernel_rfl) ?_ _
            clear hHeld
            have y0 := HI9.out.c0
            have y1 := HI9.out.c1
            have y2 := HI9.out.c2
            have y3 := HI9.out.c3
            have y4 := HI9.out.c4
            go_wp2_with fail
            refine (HKP.out _ (HP.out.below HI9.out.below (Nat.le_refl _)) (HL.out.below HI9.out.below (Nat.le_refl _)) (HH.out.below HI9.out.below (Nat.le_refl _))).mono ?_
            rintro e w7 ⟨rfl, hB7⟩
            have HB7 := Lib.hid (HI9.out.low hB7).below
            clear hB7 y0 y1 y2 y3 y4
            go_wp2_with fail
            go_ret2
            exact ⟨rfl, HB7.out⟩
    · have hvd : vdA ps lo hi out mn mx = 1 := by unfold vdA; rw [if_pos hz, hpv]; rfl
      rw [hvd, hz]
      rw [hpv] at HPV
      generalize conB lo hi = B at *
      obtain ⟨b0, b1', b2', b3', rfl⟩ := rg_list4 hok.l4
      rw [bx_4] at HPV HBO
      clear hpv hvd
      clear hz z1 z2 hcon q1 q2 q3 q4 q5 q6 q7 h4 k4 hok hp hl hh hm hm2
      have x0 := HI.out.c0
      have x1 := HI.out.c1
      have x2 := HI.out.c2
      have x3 := HI.out.c3
      have x4 := HI.out.c4
      go_enter Try.func31, Try.ntmps31
      go_wp2_with fail
      refine (HV.out _ (HP.out.below HI.out.below (Nat.le_refl _)) (HL.out.below HI.out.below (Nat.le_refl _)) (HH.out.below HI.out.below (Nat.le_refl _))).mono ?_
      rintro e w1 ⟨rfl, hB⟩
      have HI1 := Lib.hid (HI.out.low hB)
      clear HI hB x0 x1 x2 x3 x4
      have x0 := HI1.out.c0
      have x1 := HI1.out.c1
      have x2 := HI1.out.c2
      have x3 := HI1.out.c3
      have x4 := HI1.out.c4
      go_wp2_with fail
      clear x0 x1 x2 x3 x4
      refine wp_region_held_drew (S := (fun W => BoxC w.heap.size a1 b1 4 4 c1 c2 out mn mx w W)) (by kernel_rfl) ?_ (fun hHeld => ?_)
      · exact HI1.out.drew
      generalize World.drew w1 = Wd at *
      refine wpAnyH_take (i := 0) (oi := ?oiq40) (v := ?vq40) ?hiq40 (by kernel_rfl) (by kernel_rfl) (by kernel_rfl) ?hqq40 ?hyq40 hHeld ?restq40
      case hiq40 => exact rfl
      case hqq40 => exact fun _ _ _ h => h
      case hyq40 =>
        refine Or.inl ⟨by rfl, ?_⟩
        intro w hSw
        go_simp
        (try with_reducible rfl)
      try simp only [Act.put, List.getElem_toArray, List.getElem_cons_succ, List.getElem_cons_zero, List.setIfInBounds_toArray, List.set_cons_zero, List.set_cons_succ]
      refine wpAnyH_take (i := 1) (oi := ?oiq41) (v := ?vq41) ?hiq41 (by kernel_rfl) (by kernel_rfl) (by kernel_rfl) ?hqq41 ?hyq41 hHeld ?restq41
      case hiq41 => exact rfl
      case hqq41 => exact fun _ _ _ h => h
      case hyq41 =>
        refine Or.inl ⟨by rfl, ?_⟩
        intro w hSw
        go_simp
        (try with_reducible rfl)
      try simp only [Act.put, List.getElem_toArray, List.getElem_cons_succ, List.getElem_cons_zero, List.setIfInBounds_toArray, List.set_cons_zero, List.set_cons_succ]
      refine wpAnyH_take (i := 2) (oi := ?oiq42) (v := (.slice a1 4 c1)) ?hiq42 (by kernel_rfl) (by kernel_rfl) (by kernel_rfl) ?hqq42 ?hyq42 hHeld ?restq42
      case hiq42 => exact rfl
      case hqq42 => exact fun _ _ _ h => h
      case hyq42 =>
        refine Or.inl ⟨by rfl, ?_⟩
        intro w hSw
        have z0 := hSw.c0
        go_simp
        (try with_reducible rfl)
      try simp only [Act.put, List.getElem_toArray, List.getElem_cons_succ, List.getElem_cons_zero, List.setIfInBounds_toArray, List.set_cons_zero, List.set_cons_succ]
      refine wpAnyH_take (i := 3) (oi := ?oiq43) (v := ?vq43) ?hiq43 (by kernel_rfl) (by kernel_rfl) (by kernel_rfl) ?hqq43 ?hyq43 hHeld ?restq43
      case hiq43 => exact rfl
      case hqq43 => exact fun _ _ _ h => h
      case hyq43 =>
        refine Or.inl ⟨by rfl, ?_⟩
        intro w hSw
        go_simp
        (try with_reducible rfl)
      try simp only [Act.put, List.getElem_toArray, List.getElem_cons_succ, List.getElem_cons_zero, List.setIfInBounds_toArray, List.set_cons_zero, List.set_cons_succ]
      refine wpAnyH_take (i := 4) (oi := ?oiq44) (v := (.slice b1 4 c2)) ?hiq44 (by kernel_rfl) (by kernel_rfl) (by kernel_rfl) ?hqq44 ?hyq44 hHeld ?restq44
      case hiq44 => exact rfl
      case hqq44 => exact fun _ _ _ h => h
      case hyq44 =>
        refine Or.inl ⟨by rfl, ?_⟩
        intro w hSw
        have z1 := hSw.c1
        go_simp
        (try with_reducible rfl)
      try simp only [Act.put, List.getElem_toArray, List.getElem_cons_succ, List.getElem_cons_zero, List.setIfInBounds_toArray, List.set_cons_zero, List.set_cons_succ]
      refine wpAnyH_take (i := 6) (oi := ?oiq45) (v := ?vq45) ?hiq45 (by kernel_rfl) (by kernel_rfl) (by kernel_rfl) ?hqq45 ?hyq45 hHeld ?restq45
      case hiq45 => exact rfl
      case hqq45 => exact fun _ _ _ h => h
      case hyq45 =>
        refine Or.inl ⟨by rfl, ?_⟩
        intro w hSw
        have z0 := hSw.c0
        have z1 := hSw.c1
        have z2 := hSw.c2
        have z3 := hSw.c3
        have z4 := hSw.c4
        go_simp
        (try with_reducible rfl)
      try simp only [Act.put, List.getElem_toArray, List.getElem_cons_succ, List.getElem_cons_zero, List.setIfInBounds_toArray, List.set_cons_zero, List.set_cons_succ]
      refine wpAnyH_ready (rs := [5]) (by kernel_rfl) (by simp) ?_
      refine AllReadyH.cons (o := ?or47_5) ?hr47_5 ?kr47_5 AllReadyH.nil
      case hr47_5 => exact rfl
      case kr47_5 =>
        intro K hK
        go_simp
        refine (HBO.out _ (HL.out.below hHeld.below (Nat.le_refl _)) (HH.out.below hHeld.below (Nat.le_refl _))).mono ?_
        rintro e w8 ⟨rfl, hB8⟩
        refine hK.out _ _ (hHeld.low hB8) (fun hHeld => ?_)
        clear hK K
        try simp only [Act.put, List.getElem_toArray, List.getElem_cons_succ, List.getElem_cons_zero, List.setIfInBounds_toArray, List.set_cons_zero, List.set_cons_succ]
        refine wpAnyH_ready (rs := [7]) (by kernel_rfl) (by simp) ?_
        refine AllReadyH.cons (o := ?or46_7) ?hr46_7 ?kr46_7 AllReadyH.nil
        case hr46_7 => exact rfl
        case kr46_7 =>
          intro K hK
          go_simp
          refine (HPV.out _ (HP.out.below hHeld.below (Nat.le_refl _))).mono ?_
          rintro e w9 ⟨rfl, hB9⟩
          refine hK.out _ _ (hHeld.low hB9) (fun hHeld => ?_)
          clear hK K
          try simp only [Act.put, List.getElem_toArray, List.getElem_cons_succ, List.getElem_cons_zero, List.setIfInBounds_toArray, List.set_cons_zero, List.set_cons_succ]
          have HBF := Lib.hid hHeld.below
          refine wpAnyH_done (by kernel_rfl) ?_ _
          clear hHeld
          go_wp2_with fail
          go_ret2
          exact ⟨rfl, HBF.out⟩
  · have hz1 : (vpc ps lo hi out mn mx != 0) = true := by simpa using hz
    have hz2 : (vpc ps lo hi out mn mx == 0) = false := by simpa using hz
    rw [show vdA ps lo hi out mn mx = 0 by unfold vdA; rw [if_neg hz]]
    generalize vpc ps lo hi out mn mx = c at *
    clear hz hp hl hh hm hm2
    have x0 := HI.out.c0
    have x1 := HI.out.c1
    have x2 := HI.out.c2
    have x3 := HI.out.c3
    have x4 := HI.out.c4
    go_enter Try.func31, Try.ntmps31
    go_wp2_with fail
    refine (HV.out _ (HP.out.below HI.out.below (Nat.le_refl _)) (HL.out.below HI.out.below (Nat.le_refl _)) (HH.out.below HI.out.below (Nat.le_refl _))).mono ?_
    rintro e w1 ⟨rfl, hB⟩
    have HI1 := Lib.hid (HI.out.low hB)
    clear HI hB x0 x1 x2 x3 x4
    go_wp2_with fail
    go_ret2
    exact ⟨rfl, HI1.out.below⟩

end Go.Proofs.Ytmpgaccpdglhkaa

/- ProvesEach, Loss of span: contracts. -/
set_option linter.unusedVariables false
set_option linter.unusedSimpArgs false
namespace Go.Proofs.Ytmpgaccpdglhkaa
open Go.RowKit Tinker

/-- The code of ProvesEach, and what it answers: number by number of a register. -/
def peC (ps : List L) (lo hi : List Int) (out mn mx r : Int) : Int := fe (vpc ps lo hi out mn mx) (if isReg r then 0 else 1)
def peTo (ps : List L) (lo hi : List Int) (out mn mx r : Int) (k : Nat) : Bool := (List.range k).all fun i => pvB ps ((conB lo hi).set r.toNat ⟨rg lo r + (i : Int), rg lo r + (i : Int)⟩) out mn mx
def peN (lo hi : List Int) (r : Int) : Nat := (rg hi r - rg lo r + 1).toNat
def peA (ps : List L) (lo hi : List Int) (out mn mx r : Int) : Bool := if peC ps lo hi out mn mx r = 0 then peTo ps lo hi out mn mx r (peN lo hi r) else false
theorem peTo_succ {ps : List L} {lo hi : List Int} {out mn mx r : Int} {k : Nat} : peTo ps lo hi out mn mx r (k + 1) = (peTo ps lo hi out mn mx r k && pvB ps ((conB lo hi).set r.toNat ⟨rg lo r + (k : Int), rg lo r + (k : Int)⟩) out mn mx) := by
  unfold peTo; rw [List.range_succ, List.all_append]; simp
theorem peTo_no {ps : List L} {lo hi : List Int} {out mn mx r : Int} {k m : Nat} (hk : k < m) (h : pvB ps ((conB lo hi).set r.toNat ⟨rg lo r + (k : Int), rg lo r + (k : Int)⟩) out mn mx = false) : peTo ps lo hi out mn mx r m = false := by
  unfold peTo
  rw [List.all_eq_false]
  exact ⟨k, List.mem_range.2 hk, by simp [h]⟩
theorem okB_set {b : List Rg} {r n : Int} (hb : OkB b) (h1 : -999 ≤ n) (h2 : n ≤ 999) : OkB (b.set r.toNat ⟨n, n⟩) := by
  refine ⟨by rw [List.length_set]; exact hb.l4, fun x hx => ?_⟩
  rcases List.mem_or_eq_of_mem_set hx with h | h
  · exact hb.ok x h
  · subst h; rw [okG_iff]; simp only; omega

theorem conB_len4 {lo hi : List Int} (h4 : lo.length = 4) (k4 : hi.length = 4) : (conB lo hi).length = 4 := by unfold conB; rw [List.length_zipWith, h4, k4]; rfl
theorem conB_at {lo hi : List Int} (h4 : lo.length = 4) (k4 : hi.length = 4) {k : Nat} (hk : k < 4) : (conB lo hi).getD k rg0 = ⟨lo.getD k 0, hi.getD k 0⟩ := by
  obtain ⟨x, hx⟩ := get_of_lt (show k < lo.length by omega)
  obtain ⟨y, hy⟩ := get_of_lt (show k < hi.length by omega)
  rw [getD_of_get (show (conB lo hi)[k]? = some ⟨x, y⟩ by unfold conB; rw [List.getElem?_zipWith, hx, hy]), getD_of_get hx, getD_of_get hy]
theorem mem_con {lo hi s : List Int} (h4 : lo.length = 4) (k4 : hi.length = 4) (h : inBx lo hi 4 s) : memB (conB lo hi) s = true := by
  rw [memB_iff]; intro k hk
  rw [conB_at h4 k4 hk, inG_iff]
  exact h.2 k hk
theorem end_in {ps : List L} {b : List Rg} {s : List Int} {out : Int} (hv : ∀ l ∈ ps, isLn l = true) (hb : OkB b) (hs : okS s) (h : memB b s = true) (h0 : 0 ≤ out) (h3 : out ≤ 3) : inG (gAt (endB ps b) out) (endP ps s out) = true :=
  memB_iff.1 (in_end hv hb hs h).2 out.toNat (by omega)
/-- What is proved by spans is kept, for each state in the box. -/
theorem pv_gd {ps : List L} {b : List Rg} {s : List Int} {out mn mx : Int} (hv : ∀ l ∈ ps, isLn l = true) (hb : OkB b) (hs : okS s) (h : memB b s = true) (h0 : 0 ≤ out) (h3 : out ≤ 3) (hp : pvB ps b out mn mx = true) : gdP ps out mn mx s = true := by
  have h1 := inG_iff.1 (end_in hv hb hs h h0 h3)
  have h2 := subG_iff.1 hp
  unfold gdP
  rw [btw_true]
  simp only at h2
  omega
theorem all_con {lo hi s : List Int} (hc : OkC lo hi) (h : s ∈ allS lo hi) : inBx lo hi 4 s ∧ okS s := by
  obtain ⟨k, hk⟩ := List.mem_iff_getElem?.1 h
  obtain ⟨h1, h2⟩ := mem_st hc hk
  exact ⟨h1, vs_ok h2⟩
theorem kp_of {ps : List L} {lo hi : List Int} {out mn mx : Int} (hz : vpc ps lo hi out mn mx = 0) (h : ∀ s ∈ allS lo hi, gdP ps out mn mx s = true) : kpB ps lo hi out mn mx = true := by
  rw [kpB_ok hz, fbL_ok hz, show (allS lo hi).find? (fun s => !gdP ps out mn mx s) = none from List.find?_eq_none.2 fun s hs => by simp [h s hs]]
  rfl
/-- If spans prove a contract as a whole, it is kept. -/
theorem pv_kp {ps : List L} {lo hi : List Int} {out mn mx : Int} (hz : vpc ps lo hi out mn mx = 0) (h : pvB ps (conB lo hi) out mn mx = true) : kpB ps lo hi out mn mx = true := by
  obtain ⟨z1, z2⟩ := vpc_ok hz
  obtain ⟨q1, q2, q3, q4, _⟩ := isCon_ok (vcon_ok z2).1
  obtain ⟨o0, o3⟩ := isReg_iff.1 q4
  have hc := okC_of (vcon_ok z2).1
  refine kp_of hz fun s hs => ?_
  obtain ⟨h1, h2⟩ := all_con hc hs
  exact pv_gd (vp_ok z1).2 (okB_conV z2) h2 (mem_con hc.l4 hc.h4 h1) o0 o3 h
theorem set_sub {lo hi : List Int} (hc : OkC lo hi) {r n : Int} (r0 : 0 ≤ r) (r3 : r ≤ 3) (h1 : rg lo r ≤ n) (h2 : n ≤ rg hi r) : subB ((conB lo hi).set r.toNat ⟨n, n⟩) (conB lo hi) = true := by
  have hl := conB_len4 hc.l4 hc.h4
  rw [subB_iff]; intro k hk
  by_cases e : r.toNat = k
  · subst e
    rw [gDset_eq (by omega), conB_at hc.l4 hc.h4 hk, subG_iff]
    exact ⟨h1, h2⟩
  · rw [gDset_ne e, subG_iff]; omega
theorem rg_bd {lo hi : List Int} (hc : OkC lo hi) {r : Int} (r0 : 0 ≤ r) (r3 : r ≤ 3) : -999 ≤ rg lo r ∧ rg lo r ≤ rg hi r ∧ rg hi r ≤ 999 := by
  have h4 := hc.l4
  have k4 := hc.h4
  have h := hc.le r.toNat (by omega)
  obtain ⟨x, hx⟩ := get_of_lt (show r.toNat < lo.length by omega)
  obtain ⟨y, hy⟩ := get_of_lt (show r.toNat < hi.length by omega)
  have h1 := hc.lb x (mem_of_get hx)
  have h2 := hc.hb y (mem_of_get hy)
  unfold rg
  rw [getD_of_get hx, getD_of_get hy] at *
  omega
/-- If spans prove a contract as a whole, they prove it number by number. -/
theorem pv_pe {ps : List L} {lo hi : List Int} {out mn mx r : Int} (hz : vpc ps lo hi out mn mx = 0) (hr : isReg r = true) (h : pvB ps (conB lo hi) out mn mx = true) : peTo ps lo hi out mn mx r (peN lo hi r) = true := by
  obtain ⟨z1, z2⟩ := vpc_ok hz
  obtain ⟨q1, q2, q3, q4, _⟩ := isCon_ok (vcon_ok z2).1
  obtain ⟨o0, o3⟩ := isReg_iff.1 q4
  obtain ⟨r0, r3⟩ := isReg_iff.1 hr
  have hc := okC_of (vcon_ok z2).1
  have hb := okB_conV z2
  obtain ⟨b1, b2, b3⟩ := rg_bd hc r0 r3
  unfold peTo
  rw [List.all_eq_true]
  intro k hk
  have hk := List.mem_range.1 hk
  unfold peN at hk
  have hs := okB_set (r := r) (n := rg lo r + (k : Int)) hb (by omega) (by omega)
  have hm := end_mono (vp_ok z1).2 hs hb (set_sub hc r0 r3 (by omega) (by omega))
  have h1 := subG_iff.1 (subB_iff.1 hm out.toNat (by omega))
  have h2 := subG_iff.1 h
  unfold pvB
  rw [subG_iff]
  exact ⟨Int.le_trans h2.1 h1.1, Int.le_trans h1.2 h2.2⟩
/-- If spans prove a contract number by number, it is kept. -/
theorem pe_kp {ps : List L} {lo hi : List Int} {out mn mx r : Int} (hz : vpc ps lo hi out mn mx = 0) (hr : isReg r = true) (h : peTo ps lo hi out mn mx r (peN lo hi r) = true) : kpB ps lo hi out mn mx = true := by
  obtain ⟨z1, z2⟩ := vpc_ok hz
  obtain ⟨q1, q2, q3, q4, _⟩ := isCon_ok (vcon_ok z2).1
  obtain ⟨o0, o3⟩ := isReg_iff.1 q4
  obtain ⟨r0, r3⟩ := isReg_iff.1 hr
  have hc := okC_of (vcon_ok z2).1
  have hb := okB_conV z2
  obtain ⟨b1, b2, b3⟩ := rg_bd hc r0 r3
  refine kp_of hz fun s hs => ?_
  obtain ⟨h1, h2⟩ := all_con hc hs
  have hsr : rg lo r ≤ rg s r ∧ rg s r ≤ rg hi r := h1.2 r.toNat (by omega)
  have hk := List.all_eq_true.1 h ((rg s r - rg lo r).toNat) (List.mem_range.2 (by unfold peN; omega))
  rw [show rg lo r + ((rg s r - rg lo r).toNat : Int) = rg s r by omega] at hk
  refine pv_gd (vp_ok z1).2 (okB_set (r := r) hb (by omega) (by omega)) h2 ?_ o0 o3 hk
  rw [mem_set hb.l4 (by omega)]
  refine ⟨?_, fun k hk _ => memB_iff.1 (mem_con hc.l4 hc.h4 h1) k hk⟩
  rw [inG_iff]
  exact ⟨Int.le_refl _, Int.le_refl _⟩
/-- Spans are never narrower than what there is. -/
theorem ex_in {ps : List L} {lo hi : List Int} {out mn mx : Int} (hz : vpc ps lo hi out mn mx = 0) : (gAt (endB ps (conB lo hi)) out).lo ≤ (exV ps lo hi out mn mx).1 ∧ (exV ps lo hi out mn mx).2 ≤ (gAt (endB ps (conB lo hi)) out).hi ∧ (exV ps lo hi out mn mx).1 ≤ (exV ps lo hi out mn mx).2 := by
  obtain ⟨z1, z2⟩ := vpc_ok hz
  obtain ⟨q1, q2, q3, q4, _⟩ := isCon_ok (vcon_ok z2).1
  obtain ⟨o0, o3⟩ := isReg_iff.1 q4
  have hc := okC_of (vcon_ok z2).1
  have hb := okB_conV z2
  have hg := okG_iff.1 ((end_ok (vp_ok z1).2 hb).g o0 o3)
  rw [exV_ok hz]
  have key : ∀ s ∈ allS lo hi, (gAt (endB ps (conB lo hi)) out).lo ≤ endP ps s out ∧ endP ps s out ≤ (gAt (endB ps (conB lo hi)) out).hi := fun s hs => by
    obtain ⟨h1, h2⟩ := all_con hc hs
    exact inG_iff.1 (end_in (vp_ok z1).2 hb h2 (mem_con hc.l4 hc.h4 h1) o0 o3)
  exact ⟨(xtl_iff ps out _ 0 (allS lo hi)).2 ⟨by omega, fun s hs => (key s hs).1⟩, (xtl_iff2 ps out 0 _ (allS lo hi)).2 ⟨by omega, fun s hs => (key s hs).2⟩, xtl_le ps out _ (allS_ne hc)⟩

set_option maxRecDepth 100000 in
set_option maxHeartbeats 8000000 in
theorem sProvesEach_any (a a1 b1 : Option Addr) (ca c1 c2 : Nat) (ps : List L) (lo hi : List Int) (out mn mx r : Int) (w : World) (hp : LinesAt w a ps) (hl : IntsAt w a1 lo) (hh : IntsAt w b1 hi) (hm : lo.length ≤ 1000) (hm2 : hi.length ≤ 1000) :
    Calls Try.prog 24 #[.slice a ps.length ca, .agg #[.slice a1 lo.length c1, .slice b1 hi.length c2, .int .i64 out, .int .i64 mn, .int .i64 mx], .int .i64 r] w fun e w' => e = .returned (.tuple #[.bool (peA ps lo hi out mn mx r), .int .i64 (peC ps lo hi out mn mx r)]) ∧ Below w.heap.size w w' := by
  have HI := Lib.hid (boxC_new (a := a1) (b := b1) (n := lo.length) (m := hi.length) (ca := c1) (cb := c2) (out := out) (mn := mn) (mx := mx) w)
  have HV := Lib.hid (fun w hp hl hh => svalC_any a a1 b1 ca c1 c2 ps lo hi out mn mx w hp hl hh hm hm2)
  have HP := Lib.hid hp
  have HL := Lib.hid hl
  have HH := Lib.hid hh
  by_cases hcz : peC ps lo hi out mn mx r = 0
  · obtain ⟨hz, hrz⟩ := fe_zero hcz
    have hr : isReg r = true := by cases h : isReg r <;> simp [h] at hrz ⊢
    obtain ⟨z1, z2⟩ := vpc_ok hz
    have hcon := (vcon_ok z2).1
    obtain ⟨q1, q2, q3, q4, q5, q6, q7⟩ := isCon_ok hcon
    have h4 := (vs_ok q1).1
    have k4 := (vs_ok q2).1
    have hok := okB_conV z2
    have HBO := Lib.hid (fun w h1 h2 => boxBetween_any a1 b1 c1 c2 lo hi w h1 h2 h4 k4)
    clear hcz hrz
    rw [hz, h4, k4] at HV
    rw [h4, k4] at HI
    rw [h4, k4]
    have hc := okC_of hcon
    obtain ⟨r0, r3⟩ := isReg_iff.1 hr
    obtain ⟨d1, d2, d3⟩ := rg_bd hc r0 r3
    rw [show peA ps lo hi out mn mx r = peTo ps lo hi out mn mx r (peN lo hi r) by unfold peA peC; rw [hz, hr]; rfl, show peC ps lo hi out mn mx r = 0 by unfold peC; rw [hz, hr]; rfl]
    have HPE := Lib.hid (fun n (h1 : -999 ≤ n) (h2 : n ≤ 999) w hp => sproves_any a a1 b1 ca c1 c2 4 4 ps ((conB lo hi).set r.toNat ⟨n, n⟩) out mn mx w hp z1 (okB_set (r := r) hok h1 h2) q4)
    have HWI := Lib.hid (fun n w => boxWith_any (conB lo hi) r ⟨n, n⟩ w hok.l4 r0 r3)
    have HVR := Lib.hid (fun w => sValidateRegister_any r w)
    rw [hr] at HVR
    obtain ⟨g1, f1, rfl, hg1, hl2⟩ := hl.resolve_left (by rintro rfl; simp at h4)
    obtain ⟨g2, f2, rfl, hg2, hh2⟩ := hh.resolve_left (by rintro rfl; simp at k4)
    obtain ⟨xl, hxl⟩ := get_of_lt (show r.toNat < lo.length by omega)
    obtain ⟨xh, hxh⟩ := get_of_lt (show r.toNat < hi.length by omega)
    have HC1 := Lib.hid (hl2 _ _ hxl)
    have HC2 := Lib.hid (hh2 _ _ hxh)
    have el : rg lo r = xl := getD_of_get hxl
    have eh : rg hi r = xh := getD_of_get hxh
    have hpn : peN lo hi r = (xh - xl + 1).toNat := by unfold peN; rw [el, eh]
    have HTS0 := Lib.hid (fun k => peTo_succ (ps := ps) (lo := lo) (hi := hi) (out := out) (mn := mn) (mx := mx) (r := r) (k := k))
    have HTN0 := Lib.hid (fun k => peTo_no (ps := ps) (lo := lo) (hi := hi) (out := out) (mn := mn) (mx := mx) (r := r) (k := k) (m := peN lo hi r))
    rw [el] at HTS0 HTN0 d1 d2
    rw [eh] at d2 d3
    rw [hpn] at HTN0 ⊢
    have HT0 := Lib.hid (show peTo ps lo hi out mn mx r 0 = true from rfl)
    generalize peTo ps lo hi out mn mx r = T at *
    have hlc := hok.l4
    generalize conB lo hi = B at *
    obtain ⟨b0, b1', b2', b3', rfl⟩ := rg_list4 hlc
    rw [bx_4] at HBO HWI
    unfold gv at HWI
    have t1 : r < 4 := by omega
    have u1 : r.toNat < 4 := by omega
    clear hz z1 z2 hcon q1 q2 q3 q4 q5 q6 q7 h4 k4 hok hp hl hh hm hm2 hc hr hxl hxh el eh hpn hl2 hh2 hlc
    have x0 := HI.out.c0
    have x1 := HI.out.c1
    have x2 := HI.out.c2
    have x3 := HI.out.c3
    have x4 := HI.out.c4
    go_enter Try.func24, Try.ntmps24
    go_wp2_with fail
    refine (HV.out _ (HP.out.below HI.out.below (Nat.le_refl _)) (HL.out.below HI.out.below (Nat.le_refl _)) (HH.out.below HI.out.below (Nat.le_refl _))).mono ?_
    rintro e w1 ⟨rfl, hB⟩
    have HI1 := Lib.hid (HI.out.low hB)
    clear HI hB x0 x1 x2 x3 x4
    go_wp2_with fail
    refine (HVR.out _).mono ?_
    rintro e w0 ⟨rfl, rfl⟩
    go_wp2_with fail
    refine (firstError_two _ _ _ _).mono ?_
    rintro e w2 ⟨rfl, hw2⟩
    have HI2 := Lib.hid (show BoxC w.heap.size (some ⟨g1, f1, none⟩) (some ⟨g2, f2, none⟩) 4 4 c1 c2 out mn mx w w2 by rw [← hw2]; exact HI1.out.low ((Below.refl _ _).alloc (Nat.le_refl _) _))
    clear hw2 HI1
    have x0 := HI2.out.c0
    have x1 := HI2.out.c1
    have x2 := HI2.out.c2
    have x3 := HI2.out.c3
    have x4 := HI2.out.c4
    go_wp2_with fail
    refine (HBO.out _ (HL.out.below HI2.out.below (Nat.le_refl _)) (HH.out.below HI2.out.below (Nat.le_refl _))).mono ?_
    rintro e w3 ⟨rfl, hB⟩
    have HI3 := Lib.hid (HI2.out.low hB)
    clear HI2 hB x0 x1 x2 x3 x4
    have HBX5 := Lib.hid (show (w3.alloc (.cells #[.int .i64 b0.lo, .int .i64 b0.hi, .int .i64 b1'.lo, .int .i64 b1'.hi, .int .i64 b2'.lo, .int .i64 b2'.hi, .int .i64 b3'.lo, .int .i64 b3'.hi] 69)).heap[w3.heap.size]? = _ from hp_new rfl)
    have HCN5 := Lib.hid (show (w3.alloc (.cells #[.int .i64 b0.lo, .int .i64 b0.hi, .int .i64 b1'.lo, .int .i64 b1'.hi, .int .i64 b2'.lo, .int .i64 b2'.hi, .int .i64 b3'.lo, .int .i64 b3'.hi] 69)).heap[w.heap.size]? = _ from hp_alloc HI3.out.bl)
    have HB5 := Lib.hid (HI3.out.below.alloc HI3.out.below.size (.cells #[.int .i64 b0.lo, .int .i64 b0.hi, .int .i64 b1'.lo, .int .i64 b1'.hi, .int .i64 b2'.lo, .int .i64 b2'.hi, .int .i64 b3'.lo, .int .i64 b3'.hi] 69))
    have y0 := fun o => cell_alloc_keep (o := o) HI3.out.c0
    have y1 := fun o => cell_alloc_keep (o := o) HI3.out.c1
    have y9 := fun o => cell_alloc_keep (o := o) ((HI3.out.below.cell (p := ⟨g1, f1 + r.toNat, none⟩) hg1).trans HC1.out)
    have x0 := HI3.out.c0
    have x1 := HI3.out.c1
    go_wp2_with fail
    generalize World.alloc w3 _ = W5 at *
    clear y0 y1 y9 x0 x1 HI3
    go_loopw [10] (fun s10 wr => ∃ k : Nat, k ≤ (xh - xl + 1).toNat ∧ s10 = .int .i64 (xl + (k : Int)) ∧ T k = true ∧ Below W5.heap.size W5 wr) (fun s10 _ => (xh + 1 - intOf s10).toNat)
    case atStart => exact ⟨0, Nat.zero_le _, by rw [show xl + ((0 : Nat) : Int) = xl by omega], HT0.out, Below.refl _ _⟩
    case round =>
      obtain ⟨k, hk, rfl, hT, hBr⟩ := hrel
      have HTK := Lib.hid hT
      have HBr := Lib.hid hBr
      have HB6 := Lib.hid (HB5.out.trans (hBr.mono HB5.out.size))
      have hcn := hp_below HCN5.out hBr (hp_lt HCN5.out)
      have y1 := hp_cell hcn (j := 1) rfl
      have y9 := (HB6.out.cell (p := ⟨g2, f2 + r.toNat, none⟩) hg2).trans HC2.out
      clear hT hBr hcn
      by_cases hlt : xl + (k : Int) ≤ xh
      · have hkn : k < (xh - xl + 1).toNat := by omega
        have HTS := Lib.hid (HTS0.out k)
        have HFIN := Lib.hid (HTN0.out k hkn)
        have HPV := Lib.hid (HPE.out (xl + (k : Int)) (by omega) (by omega))
        have HWT := Lib.hid (HWI.out (xl + (k : Int)))
        have HON := Lib.hid (fun w => ivOnly_any (xl + (k : Int)) w)
        unfold gv at HON
        have hsl : ([b0, b1', b2', b3'].set r.toNat (⟨xl + (k : Int), xl + (k : Int)⟩ : Rg)).length = 4 := by simp
        generalize ([b0, b1', b2', b3'].set r.toNat (⟨xl + (k : Int), xl + (k : Int)⟩ : Rg)) = q at *
        obtain ⟨e0, e1, e2, e3, rfl⟩ := rg_list4 hsl
        rw [bx_4] at HPV HWT
        clear hsl
        obtain ⟨V, hV⟩ : ∃ V, pvB ps [e0, e1, e2, e3] out mn mx = V := ⟨_, rfl⟩
        rw [hV] at HPV HTS HFIN
        clear hV
        cases V
        · have HPVK : Hid (false = false) := Lib.hid rfl
          go_wp2_with fail
          refine wp_region_held_drew (S := (fun W => Below W5.heap.size W5 W)) (by kernel_rfl) ?_ (fun hHeld => ?_)
          · exact HBr.out.drew
          generalize World.drew wr = Wd at *
          refine wpAnyH_take (i := 0) (oi := ?oiq48) (v := ?vq48) ?hiq48 (by kernel_rfl) (by kernel_rfl) (by kernel_rfl) ?hqq48 ?hyq48 hHeld ?restq48
          case hiq48 => exact rfl
          case hqq48 => exact fun _ _ _ h => h
          case hyq48 =>
            refine Or.inl ⟨by rfl, ?_⟩
            intro w hSw
            go_simp
            (try with_reducible rfl)
          try simp only [Act.put, List.getElem_toArray, List.getElem_cons_succ, List.getElem_cons_zero, List.setIfInBounds_toArray, List.set_cons_zero, List.set_cons_succ]
          refine wpAnyH_take (i := 1) (oi := ?oiq49) (v := ?vq49) ?hiq49 (by kernel_rfl) (by kernel_rfl) (by kernel_rfl) ?hqq49 ?hyq49 hHeld ?restq49
          case hiq49 => exact rfl
          case hqq49 => exact fun _ _ _ h => h
          case hyq49 =>
            refine Or.inl ⟨by rfl, ?_⟩
            intro w hSw
            have z := hp_below HBX5.out hSw (hp_lt HBX5.out)
            have z0 := hp_cell z (j := 0) rfl
            have z1 := hp_cell z (j := 1) rfl
            have z2 := hp_cell z (j := 2) rfl
            have z3 := hp_cell z (j := 3) rfl
            have z4 := hp_cell z (j := 4) rfl
            have z5 := hp_cell z (j := 5) rfl
            have z6 := hp_cell z (j := 6) rfl
            have z7 := hp_cell z (j := 7) rfl
            clear z
            go_simp
            (try with_reducible rfl)
          try simp only [Act.put, List.getElem_toArray, List.getElem_cons_succ, List.getElem_cons_zero, List.setIfInBounds_toArray, List.set_cons_zero, List.set_cons_succ]
          refine wpAnyH_take (i := 2) (oi := ?oiq50) (v := ?vq50) ?hiq50 (by kernel_rfl) (by kernel_rfl) (by kernel_rfl) ?hqq50 ?hyq50 hHeld ?restq50
          case hiq50 => exact rfl
          case hqq50 => exact fun _ _ _ h => h
          case hyq50 =>
            refine Or.inl ⟨by rfl, ?_⟩
            intro w hSw
            go_simp
            (try with_reducible rfl)
          try simp only [Act.put, List.getElem_toArray, List.getElem_cons_succ, List.getElem_cons_zero, List.setIfInBounds_toArray, List.set_cons_zero, List.set_cons_succ]
          refine wpAnyH_take (i := 3) (oi := ?oiq51) (v := ?vq51) ?hiq51 (by kernel_rfl) (by kernel_rfl) (by kernel_rfl) ?hqq51 ?hyq51 hHeld ?restq51
          case hiq51 => exact rfl
          case hqq51 => exact fun _ _ _ h => h
          case hyq51 =>
            refine Or.inl ⟨by rfl, ?_⟩
            intro w hSw
            go_simp
            (try with_reducible rfl)
          try simp only [Act.put, List.getElem_toArray, List.getElem_cons_succ, List.getElem_cons_zero, List.setIfInBounds_toArray, List.set_cons_zero, List.set_cons_succ]
          refine wpAnyH_take (i := 6) (oi := ?oiq52) (v := ?vq52) ?hiq52 (by kernel_rfl) (by kernel_rfl) (by kernel_rfl) ?hqq52 ?hyq52 hHeld ?restq52
          case hiq52 => exact rfl
          case hqq52 => exact fun _ _ _ h => h
          case hyq52 =>
            refine Or.inl ⟨by rfl, ?_⟩
            intro w hSw
            have z := hp_below HCN5.out hSw (hp_lt HCN5.out)
            have z0 := hp_cell z (j := 0) rfl
            have z1 := hp_cell z (j := 1) rfl
            have z2 := hp_cell z (j := 2) rfl
            have z3 := hp_cell z (j := 3) rfl
            have z4 := hp_cell z (j := 4) rfl
            clear z
            go_simp
            (try with_reducible rfl)
          try simp only [Act.put, List.getElem_toArray, List.getElem_cons_succ, List.getElem_cons_zero, List.setIfInBounds_toArray, List.set_cons_zero, List.set_cons_succ]
          refine wpAnyH_ready (rs := [4]) (by kernel_rfl) (by simp) ?_
          refine AllReadyH.cons (o := ?or56_4) ?hr56_4 ?kr56_4 AllReadyH.nil
          case hr56_4 => exact rfl
          case kr56_4 =>
            intro K hK
            go_simp
            refine (HON.out _).mono ?_
            rintro e w7 ⟨rfl, hB7⟩
            refine hK.out _ _ (hHeld.trans (hB7.mono hHeld.size)) (fun hHeld => ?_)
            clear hK K
            try simp only [Act.put, List.getElem_toArray, List.getElem_cons_succ, List.getElem_cons_zero, List.setIfInBounds_toArray, List.set_cons_zero, List.set_cons_succ]
            refine wpAnyH_ready (rs := [5]) (by kernel_rfl) (by simp) ?_
            refine AllReadyH.cons (o := ?or55_5) ?hr55_5 ?kr55_5 AllReadyH.nil
            case hr55_5 => exact rfl
            case kr55_5 =>
              intro K hK
              go_simp
              refine (HWT.out _).mono ?_
              rintro e w8 ⟨rfl, hB8⟩
              refine hK.out _ _ (hHeld.trans (hB8.mono hHeld.size)) (fun hHeld => ?_)
              clear hK K
              try simp only [Act.put, List.getElem_toArray, List.getElem_cons_succ, List.getElem_cons_zero, List.setIfInBounds_toArray, List.set_cons_zero, List.set_cons_succ]
              refine wpAnyH_ready (rs := [7]) (by kernel_rfl) (by simp) ?_
              refine AllReadyH.cons (o := ?or54_7) ?hr54_7 ?kr54_7 AllReadyH.nil
              case hr54_7 => exact rfl
              case kr54_7 =>
                intro K hK
                go_simp
                refine (HPV.out _ (HP.out.below (HB5.out.trans (hHeld.mono HB5.out.size)) (Nat.le_refl _))).mono ?_
                rintro e w9 ⟨rfl, hB9⟩
                refine hK.out _ _ (hHeld.trans (hB9.mono hHeld.size)) (fun hHeld => ?_)
                clear hK K
                try simp only [Act.put, List.getElem_toArray, List.getElem_cons_succ, List.getElem_cons_zero, List.setIfInBounds_toArray, List.set_cons_zero, List.set_cons_succ]
                refine wpAnyH_take (i := 8) (oi := ?oiq53) (v := ?vq53) ?hiq53 (by kernel_rfl) (by kernel_rfl) (by kernel_rfl) ?hqq53 ?hyq53 hHeld ?restq53
                case hiq53 => exact rfl
                case hqq53 => exact fun _ _ _ h => h
                case hyq53 =>
                  refine Or.inl ⟨by rfl, ?_⟩
                  intro w hSw
                  go_simp
                  (try with_reducible rfl)
                try simp only [Act.put, List.getElem_toArray, List.getElem_cons_succ, List.getElem_cons_zero, List.setIfInBounds_toArray, List.set_cons_zero, List.set_cons_succ]
                have HBF := Lib.hid hHeld
                refine wpAnyH_done (by kernel_rfl) ?_ _
                clear hHeld
                go_wp2_with fail
                go_ret2
                exact ⟨by rw [HFIN.out HPVK.out]; rfl, HB5.out.trans (HBF.out.mono HB5.out.size)⟩
        · have HPVK : Hid (true = true) := Lib.hid rfl
          go_wp2_with fail
          refine wp_region_held_drew (S := (fun W => Below W5.heap.size W5 W)) (by kernel_rfl) ?_ (fun hHeld => ?_)
          · exact HBr.out.drew
          generalize World.drew wr = Wd at *
          refine wpAnyH_take (i := 0) (oi := ?oiq57) (v := ?vq57) ?hiq57 (by kernel_rfl) (by kernel_rfl) (by kernel_rfl) ?hqq57 ?hyq57 hHeld ?restq57
          case hiq57 => exact rfl
          case hqq57 => exact fun _ _ _ h => h
          case hyq57 =>
            refine Or.inl ⟨by rfl, ?_⟩
            intro w hSw
            go_simp
            (try with_reducible rfl)
          try simp only [Act.put, List.getElem_toArray, List.getElem_cons_succ, List.getElem_cons_zero, List.setIfInBounds_toArray, List.set_cons_zero, List.set_cons_succ]
          refine wpAnyH_take (i := 1) (oi := ?oiq58) (v := ?vq58) ?hiq58 (by kernel_rfl) (by kernel_rfl) (by kernel_rfl) ?hqq58 ?hyq58 hHeld ?restq58
          case hiq58 => exact rfl
          case hqq58 => exact fun _ _ _ h => h
          case hyq58 =>
            refine Or.inl ⟨by rfl, ?_⟩
            intro w hSw
            have z := hp_below HBX5.out hSw (hp_lt HBX5.out)
            have z0 := hp_cell z (j := 0) rfl
            have z1 := hp_cell z (j := 1) rfl
            have z2 := hp_cell z (j := 2) rfl
            have z3 := hp_cell z (j := 3) rfl
            have z4 := hp_cell z (j := 4) rfl
            have z5 := hp_cell z (j := 5) rfl
            have z6 := hp_cell z (j := 6) rfl
            have z7 := hp_cell z (j := 7) rfl
            clear z
            go_simp
            (try with_reducible rfl)
          try simp only [Act.put, List.getElem_toArray, List.getElem_cons_succ, List.getElem_cons_zero, List.setIfInBounds_toArray, List.set_cons_zero, List.set_cons_succ]
          refine wpAnyH_take (i := 2) (oi := ?oiq59) (v := ?vq59) ?hiq59 (by kernel_rfl) (by kernel_rfl) (by kernel_rfl) ?hqq59 ?hyq59 hHeld ?restq59
          case hiq59 => exact rfl
          case hqq59 => exact fun _ _ _ h => h
          case hyq59 =>
            refine Or.inl ⟨by rfl, ?_⟩
            intro w hSw
            go_simp
            (try with_reducible rfl)
          try simp only [Act.put, List.getElem_toArray, List.getElem_cons_succ, List.getElem_cons_zero, List.setIfInBounds_toArray, List.set_cons_zero, List.set_cons_succ]
          refine wpAnyH_take (i := 3) (oi := ?oiq60) (v := ?vq60) ?hiq60 (by kernel_rfl) (by kernel_rfl) (by kernel_rfl) ?hqq60 ?hyq60 hHeld ?restq60
          case hiq60 => exact rfl
          case hqq60 => exact fun _ _ _ h => h
          case hyq60 =>
            refine Or.inl ⟨by rfl, ?_⟩
            intro w hSw
            go_simp
            (try with_reducible rfl)
          try simp only [Act.put, List.getElem_toArray, List.getElem_cons_succ, List.getElem_cons_zero, List.setIfInBounds_toArray, List.set_cons_zero, List.set_cons_succ]
          refine wpAnyH_take (i := 6) (oi := ?oiq61) (v := ?vq61) ?hiq61 (by kernel_rfl) (by kernel_rfl) (by kernel_rfl) ?hqq61 ?hyq61 hHeld ?restq61
          case hiq61 => exact rfl
          case hqq61 => exact fun _ _ _ h => h
          case hyq61 =>
            refine Or.inl ⟨by rfl, ?_⟩
            intro w hSw
            have z := hp_below HCN5.out hSw (hp_lt HCN5.out)
            have z0 := hp_cell z (j := 0) rfl
            have z1 := hp_cell z (j := 1) rfl
            have z2 := hp_cell z (j := 2) rfl
            have z3 := hp_cell z (j := 3) rfl
            have z4 := hp_cell z (j := 4) rfl
            clear z
            go_simp
            (try with_reducible rfl)
          try simp only [Act.put, List.getElem_toArray, List.getElem_cons_succ, List.getElem_cons_zero, List.setIfInBounds_toArray, List.set_cons_zero, List.set_cons_succ]
          refine wpAnyH_ready (rs := [4]) (by kernel_rfl) (by simp) ?_
          refine AllReadyH.cons (o := ?or65_4) ?hr65_4 ?kr65_4 AllReadyH.nil
          case hr65_4 => exact rfl
          case kr65_4 =>
            intro K hK
            go_simp
            refine (HON.out _).mono ?_
            rintro e w7 ⟨rfl, hB7⟩
            refine hK.out _ _ (hHeld.trans (hB7.mono hHeld.size)) (fun hHeld => ?_)
            clear hK K
            try simp only [Act.put, List.getElem_toArray, List.getElem_cons_succ, List.getElem_cons_zero, List.setIfInBounds_toArray, List.set_cons_zero, List.set_cons_succ]
            refine wpAnyH_ready (rs := [5]) (by kernel_rfl) (by simp) ?_
            refine AllReadyH.cons (o := ?or64_5) ?hr64_5 ?kr64_5 AllReadyH.nil
            case hr64_5 => exact rfl
            case kr64_5 =>
              intro K hK
              go_simp
              refine (HWT.out _).mono ?_
              rintro e w8 ⟨rfl, hB8⟩
              refine hK.out _ _ (hHeld.trans (hB8.mono hHeld.size)) (fun hHeld => ?_)
              clear hK K
              try simp only [Act.put, List.getElem_toArray, List.getElem_cons_succ, List.getElem_cons_zero, List.setIfInBounds_toArray, List.set_cons_zero, List.set_cons_succ]
              refine wpAnyH_ready (rs := [7]) (by kernel_rfl) (by simp) ?_
              refine AllReadyH.cons (o := ?or63_7) ?hr63_7 ?kr63_7 AllReadyH.nil
              case hr63_7 => exact rfl
              case kr63_7 =>
                intro K hK
                go_simp
                refine (HPV.out _ (HP.out.below (HB5.out.trans (hHeld.mono HB5.out.size)) (Nat.le_refl _))).mono ?_
                rintro e w9 ⟨rfl, hB9⟩
                refine hK.out _ _ (hHeld.trans (hB9.mono hHeld.size)) (fun hHeld => ?_)
                clear hK K
                try simp only [Act.put, List.getElem_toArray, List.getElem_cons_succ, List.getElem_cons_zero, List.setIfInBounds_toArray, List.set_cons_zero, List.set_cons_succ]
                refine wpAnyH_take (i := 8) (oi := ?oiq62) (v := ?vq62) ?hiq62 (by kernel_rfl) (by kernel_rfl) (by kernel_rfl) ?hqq62 ?hyq62 hHeld ?restq62
                case hiq62 => exact rfl
                case hqq62 => exact fun _ _ _ h => h
                case hyq62 =>
                  refine Or.inl ⟨by rfl, ?_⟩
                  intro w hSw
                  go_simp
                  (try with_reducible rfl)
                try simp only [Act.put, List.getElem_toArray, List.getElem_cons_succ, List.getElem_cons_zero, List.setIfInBounds_toArray, List.set_cons_zero, List.set_cons_succ]
                have HBF := Lib.hid hHeld
                refine wpAnyH_done (by kernel_rfl) ?_ _
                clear hHeld
                go_wp2_with fail
                go_roundw
                case rel => exact ⟨k + 1, by omega, by go_num, by rw [HTS.out, HTK.out]; rfl, HBF.out⟩
                case measure => simp [intOf]; omega
      · have hke : k = (xh - xl + 1).toNat := by omega
        rw [hke] at HTK
        clear hke
        go_wp2_with fail
        go_ret2
        exact ⟨by rw [HTK.out]; rfl, HB6.out⟩
  · rw [show peA ps lo hi out mn mx r = false by unfold peA; rw [if_neg hcz]]
    have hz1 : (peC ps lo hi out mn mx r != 0) = true := by simpa using hcz
    have hz2 : (peC ps lo hi out mn mx r == 0) = false := by simpa using hcz
    have HVR := Lib.hid (fun w => sValidateRegister_any r w)
    have HFE := Lib.hid (show fe (vpc ps lo hi out mn mx) (if isReg r then 0 else 1) = peC ps lo hi out mn mx r from rfl)
    generalize peC ps lo hi out mn mx r = cc at *
    generalize (if isReg r then (0 : Int) else 1) = rr at *
    generalize vpc ps lo hi out mn mx = c at *
    clear hcz hp hl hh hm hm2
    have x0 := HI.out.c0
    have x1 := HI.out.c1
    have x2 := HI.out.c2
    have x3 := HI.out.c3
    have x4 := HI.out.c4
    go_enter Try.func24, Try.ntmps24
    go_wp2_with fail
    refine (HV.out _ (HP.out.below HI.out.below (Nat.le_refl _)) (HL.out.below HI.out.below (Nat.le_refl _)) (HH.out.below HI.out.below (Nat.le_refl _))).mono ?_
    rintro e w1 ⟨rfl, hB⟩
    have HI1 := Lib.hid (HI.out.low hB)
    clear HI hB x0 x1 x2 x3 x4
    go_wp2_with fail
    refine (HVR.out _).mono ?_
    rintro e w0 ⟨rfl, rfl⟩
    go_wp2_with fail
    refine (firstError_two _ _ _ _).mono ?_
    rintro e w2 ⟨rfl, hw2⟩
    have HI2 := Lib.hid (show BoxC w.heap.size a1 b1 lo.length hi.length c1 c2 out mn mx w w2 by rw [← hw2]; exact HI1.out.low ((Below.refl _ _).alloc (Nat.le_refl _) _))
    clear hw2 HI1
    rw [HFE.out]
    go_wp2_with fail
    go_ret2
    exact ⟨rfl, HI2.out.below⟩

end Go.Proofs.Ytmpgaccpdglhkaa
