/- Loss of span: contract. -/
import Derived.Test.YtmpgaccpdglhkaaSpR
import Derived.Test.YtmpgaccpdglhkaaExtD
import Derived.IntWalk
set_option linter.unusedVariables false
set_option linter.unusedSimpArgs false
namespace Go.Proofs.Ytmpgaccpdglhkaa
open Go.RowKit Tinker

/-- What Loss answers. -/
def lsA (ps : List L) (lo hi : List Int) (out mn mx : Int) : Int := if vpc ps lo hi out mn mx = 0 then ((gAt (endB ps (conB lo hi)) out).hi - (gAt (endB ps (conB lo hi)) out).lo) - ((exV ps lo hi out mn mx).2 - (exV ps lo hi out mn mx).1) else 0

set_option maxRecDepth 100000 in
set_option maxHeartbeats 4000000 in
theorem sLoss_any (a a1 b1 : Option Addr) (ca c1 c2 : Nat) (ps : List L) (lo hi : List Int) (out mn mx : Int) (w : World) (hp : LinesAt w a ps) (hl : IntsAt w a1 lo) (hh : IntsAt w b1 hi) (hm : lo.length ≤ 1000) (hm2 : hi.length ≤ 1000) :
    Calls Try.prog 27 #[.slice a ps.length ca, .agg #[.slice a1 lo.length c1, .slice b1 hi.length c2, .int .i64 out, .int .i64 mn, .int .i64 mx]] w fun e w' => e = .returned (.tuple #[.int .i64 (lsA ps lo hi out mn mx), .int .i64 (vpc ps lo hi out mn mx)]) ∧ Below w.heap.size w w' := by
  have HI := Lib.hid (boxC_new (a := a1) (b := b1) (n := lo.length) (m := hi.length) (ca := c1) (cb := c2) (out := out) (mn := mn) (mx := mx) w)
  have HV := Lib.hid (fun w hp hl hh => svalC_any a a1 b1 ca c1 c2 ps lo hi out mn mx w hp hl hh hm hm2)
  have HP := Lib.hid hp
  have HL := Lib.hid hl
  have HH := Lib.hid hh
  by_cases hz : vpc ps lo hi out mn mx = 0
  · obtain ⟨z1, z2⟩ := vpc_ok hz
    have hcon := (vcon_ok z2).1
    obtain ⟨q1, q2, q3, q4, q5, q6, q7⟩ := isCon_ok hcon
    have h4 := (vs_ok q1).1
    have k4 := (vs_ok q2).1
    have hok := okB_conV z2
    obtain ⟨o0, o3⟩ := isReg_iff.1 q4
    have hoe := end_ok (vp_ok z1).2 hok
    have hg := hoe.g o0 o3
    obtain ⟨⟨_, _⟩, ⟨_, _⟩, _⟩ := okG_iff.1 hg
    obtain ⟨e1, e2, e3⟩ := ex_in hz
    rw [show lsA ps lo hi out mn mx = ((gAt (endB ps (conB lo hi)) out).hi - (gAt (endB ps (conB lo hi)) out).lo) - ((exV ps lo hi out mn mx).2 - (exV ps lo hi out mn mx).1) by unfold lsA; rw [if_pos hz], hz]
    have t1 : out < 4 := by omega
    have u1 : out.toNat < 4 := by omega
    rw [hz, h4, k4] at HV
    rw [h4, k4] at HI
    rw [h4, k4]
    have HX := Lib.hid (fun w hp hl hh => extremes_any a a1 b1 ca c1 c2 ps lo hi out mn mx w hp hl hh hm hm2)
    rw [hz, h4, k4] at HX
    have HBO := Lib.hid (fun w h1 h2 => boxBetween_any a1 b1 c1 c2 lo hi w h1 h2 h4 k4)
    have HE := Lib.hid (fun w hp => send_any a ca ps (conB lo hi) w hp z1 hok)
    have HWD := Lib.hid (fun w => ivWidth_any (gAt (endB ps (conB lo hi)) out) w hg)
    have y4 := hoe.l4
    have b4 := hok.l4
    generalize (exV ps lo hi out mn mx).1 = l at *
    generalize (exV ps lo hi out mn mx).2 = m at *
    generalize endB ps (conB lo hi) = y at *
    generalize conB lo hi = B at *
    obtain ⟨y0, y1, y2, y3, rfl⟩ := rg_list4 y4
    obtain ⟨b0, b1', b2', b3', rfl⟩ := rg_list4 b4
    have hix := ixBout y0 y1 y2 y3 o0 o3
    rw [bx_4] at HE HBO
    rw [bx_4] at HE
    unfold gv at HWD
    generalize gAt [y0, y1, y2, y3] out = yo at *
    have hw1 : IntKind.i64.wrap (m - l) = m - l := IntWalk.i64_in _ (by omega)
    have hw2 : IntKind.i64.wrap (yo.hi - yo.lo - (m - l)) = yo.hi - yo.lo - (m - l) := IntWalk.i64_in _ (by omega)
    have hw3 : IntKind.i64.wrap (yo.hi - yo.lo) = yo.hi - yo.lo := IntWalk.i64_in _ (by omega)
    clear hz z1 z2 hcon q1 q2 q3 q4 q5 q6 q7 h4 k4 hok hoe hg hp hl hh hm hm2 y4 b4
    have x0 := HI.out.c0
    have x1 := HI.out.c1
    have x2 := HI.out.c2
    have x3 := HI.out.c3
    have x4 := HI.out.c4
    go_enter Try.func27, Try.ntmps27
    go_wp2_with fail
    refine (HV.out _ (HP.out.below HI.out.below (Nat.le_refl _)) (HL.out.below HI.out.below (Nat.le_refl _)) (HH.out.below HI.out.below (Nat.le_refl _))).mono ?_
    rintro e w1 ⟨rfl, hB⟩
    have HI1 := Lib.hid (HI.out.low hB)
    clear HI hB x0 x1 x2 x3 x4
    have x0 := HI1.out.c0
    have x1 := HI1.out.c1
    have x2 := HI1.out.c2
    have x3 := HI1.out.c3
    have x4 := HI1.out.c4
    go_wp2_with fail
    refine (HX.out _ (HP.out.below HI1.out.below (Nat.le_refl _)) (HL.out.below HI1.out.below (Nat.le_refl _)) (HH.out.below HI1.out.below (Nat.le_refl _))).mono ?_
    rintro e w2 ⟨rfl, hB⟩
    have HI2 := Lib.hid (HI1.out.low hB)
    clear HI1 hB x0 x1 x2 x3 x4
    have x0 := HI2.out.c0
    have x1 := HI2.out.c1
    have x2 := HI2.out.c2
    have x3 := HI2.out.c3
    have x4 := HI2.out.c4
    go_wp2_with fail
    clear x0 x1 x2 x3 x4
    refine wp_region_held_drew (S := (fun W => BoxC w.heap.size a1 b1 4 4 c1 c2 out mn mx w W)) (by kernel_rfl) ?_ (fun hHeld => ?_)
    · exact HI2.out.drew
    generalize World.drew w2 = Wd at *
    refine wpAnyH_take (i := 0) (oi := ?oiq53) (v := ?vq53) ?hiq53 (by kernel_rfl) (by kernel_rfl) (by kernel_rfl) ?hqq53 ?hyq53 hHeld ?restq53
    case hiq53 => exact rfl
    case hqq53 => exact fun _ _ _ h => h
    case hyq53 =>
      refine Or.inl ⟨by rfl, ?_⟩
      intro w hSw
      go_simp
      (try with_reducible rfl)
    try simp only [Act.put, List.getElem_toArray, List.getElem_cons_succ, List.getElem_cons_zero, List.setIfInBounds_toArray, List.set_cons_zero, List.set_cons_succ]
    refine wpAnyH_take (i := 1) (oi := ?oiq54) (v := ?vq54) ?hiq54 (by kernel_rfl) (by kernel_rfl) (by kernel_rfl) ?hqq54 ?hyq54 hHeld ?restq54
    case hiq54 => exact rfl
    case hqq54 => exact fun _ _ _ h => h
    case hyq54 =>
      refine Or.inl ⟨by rfl, ?_⟩
      intro w hSw
      go_simp
      (try with_reducible rfl)
    try simp only [Act.put, List.getElem_toArray, List.getElem_cons_succ, List.getElem_cons_zero, List.setIfInBounds_toArray, List.set_cons_zero, List.set_cons_succ]
    refine wpAnyH_take (i := 2) (oi := ?oiq55) (v := (.slice a1 4 c1)) ?hiq55 (by kernel_rfl) (by kernel_rfl) (by kernel_rfl) ?hqq55 ?hyq55 hHeld ?restq55
    case hiq55 => exact rfl
    case hqq55 => exact fun _ _ _ h => h
    case hyq55 =>
      refine Or.inl ⟨by rfl, ?_⟩
      intro w hSw
      have z0 := hSw.c0
      go_simp
      (try with_reducible rfl)
    try simp only [Act.put, List.getElem_toArray, List.getElem_cons_succ, List.getElem_cons_zero, List.setIfInBounds_toArray, List.set_cons_zero, List.set_cons_succ]
    refine wpAnyH_take (i := 3) (oi := ?oiq56) (v := ?vq56) ?hiq56 (by kernel_rfl) (by kernel_rfl) (by kernel_rfl) ?hqq56 ?hyq56 hHeld ?restq56
    case hiq56 => exact rfl
    case hqq56 => exact fun _ _ _ h => h
    case hyq56 =>
      refine Or.inl ⟨by rfl, ?_⟩
      intro w hSw
      go_simp
      (try with_reducible rfl)
    try simp only [Act.put, List.getElem_toArray, List.getElem_cons_succ, List.getElem_cons_zero, List.setIfInBounds_toArray, List.set_cons_zero, List.set_cons_succ]
    refine wpAnyH_take (i := 4) (oi := ?oiq57) (v := (.slice b1 4 c2)) ?hiq57 (by kernel_rfl) (by kernel_rfl) (by kernel_rfl) ?hqq57 ?hyq57 hHeld ?restq57
    case hiq57 => exact rfl
    case hqq57 => exact fun _ _ _ h => h
    case hyq57 =>
      refine Or.inl ⟨by rfl, ?_⟩
      intro w hSw
      have z1 := hSw.c1
      go_simp
      (try with_reducible rfl)
    try simp only [Act.put, List.getElem_toArray, List.getElem_cons_succ, List.getElem_cons_zero, List.setIfInBounds_toArray, List.set_cons_zero, List.set_cons_succ]
    refine wpAnyH_take (i := 7) (oi := ?oiq58) (v := ?vq58) ?hiq58 (by kernel_rfl) (by kernel_rfl) (by kernel_rfl) ?hqq58 ?hyq58 hHeld ?restq58
    case hiq58 => exact rfl
    case hqq58 => exact fun _ _ _ h => h
    case hyq58 =>
      refine Or.inl ⟨by rfl, ?_⟩
      intro w hSw
      go_simp
      (try with_reducible rfl)
    try simp only [Act.put, List.getElem_toArray, List.getElem_cons_succ, List.getElem_cons_zero, List.setIfInBounds_toArray, List.set_cons_zero, List.set_cons_succ]
    refine wpAnyH_take (i := 8) (oi := ?oiq59) (v := (.int .i64 out)) ?hiq59 (by kernel_rfl) (by kernel_rfl) (by kernel_rfl) ?hqq59 ?hyq59 hHeld ?restq59
    case hiq59 => exact rfl
    case hqq59 => exact fun _ _ _ h => h
    case hyq59 =>
      refine Or.inl ⟨by rfl, ?_⟩
      intro w hSw
      have z2 := hSw.c2
      go_simp
      (try with_reducible rfl)
    try simp only [Act.put, List.getElem_toArray, List.getElem_cons_succ, List.getElem_cons_zero, List.setIfInBounds_toArray, List.set_cons_zero, List.set_cons_succ]
    refine wpAnyH_take (i := 11) (oi := ?oiq60) (v := ?vq60) ?hiq60 (by kernel_rfl) (by kernel_rfl) (by kernel_rfl) ?hqq60 ?hyq60 hHeld ?restq60
    case hiq60 => exact rfl
    case hqq60 => exact fun _ _ _ h => h
    case hyq60 =>
      refine Or.inl ⟨by rfl, ?_⟩
      intro w hSw
      go_simp
      (try with_reducible rfl)
    try simp only [Act.put, List.getElem_toArray, List.getElem_cons_succ, List.getElem_cons_zero, List.setIfInBounds_toArray, List.set_cons_zero, List.set_cons_succ]
    refine wpAnyH_take (i := 12) (oi := ?oiq61) (v := ?vq61) ?hiq61 (by kernel_rfl) (by kernel_rfl) (by kernel_rfl) ?hqq61 ?hyq61 hHeld ?restq61
    case hiq61 => exact rfl
    case hqq61 => exact fun _ _ _ h => h
    case hyq61 =>
      refine Or.inl ⟨by rfl, ?_⟩
      intro w hSw
      go_simp
      (try with_reducible rfl)
    try simp only [Act.put, List.getElem_toArray, List.getElem_cons_succ, List.getElem_cons_zero, List.setIfInBounds_toArray, List.set_cons_zero, List.set_cons_succ]
    refine wpAnyH_take (i := 13) (oi := ?oiq62) (v := (.int .i64 (m - l))) ?hiq62 (by kernel_rfl) (by kernel_rfl) (by kernel_rfl) ?hqq62 ?hyq62 hHeld ?restq62
    case hiq62 => exact rfl
    case hqq62 => exact fun _ _ _ h => h
    case hyq62 =>
      refine Or.inl ⟨by rfl, ?_⟩
      intro w hSw
      go_simp
      (try with_reducible rfl)
    try simp only [Act.put, List.getElem_toArray, List.getElem_cons_succ, List.getElem_cons_zero, List.setIfInBounds_toArray, List.set_cons_zero, List.set_cons_succ]
    refine wpAnyH_ready (rs := [5]) (by kernel_rfl) (by simp) ?_
    refine AllReadyH.cons (o := ?or69_5) ?hr69_5 ?kr69_5 AllReadyH.nil
    case hr69_5 => exact rfl
    case kr69_5 =>
      intro K hK
      go_simp
      refine (HBO.out _ (HL.out.below hHeld.below (Nat.le_refl _)) (HH.out.below hHeld.below (Nat.le_refl _))).mono ?_
      rintro e w7 ⟨rfl, hB7⟩
      refine hK.out _ _ (hHeld.low hB7) (fun hHeld => ?_)
      clear hK K
      try simp only [Act.put, List.getElem_toArray, List.getElem_cons_succ, List.getElem_cons_zero, List.setIfInBounds_toArray, List.set_cons_zero, List.set_cons_succ]
      refine wpAnyH_ready (rs := [6]) (by kernel_rfl) (by simp) ?_
      refine AllReadyH.cons (o := ?or68_6) ?hr68_6 ?kr68_6 AllReadyH.nil
      case hr68_6 => exact rfl
      case kr68_6 =>
        intro K hK
        go_simp
        refine (HE.out _ (HP.out.below hHeld.below (Nat.le_refl _))).mono ?_
        rintro e w8 ⟨rfl, hB8⟩
        refine hK.out _ _ (hHeld.low hB8) (fun hHeld => ?_)
        clear hK K
        try simp only [Act.put, List.getElem_toArray, List.getElem_cons_succ, List.getElem_cons_zero, List.setIfInBounds_toArray, List.set_cons_zero, List.set_cons_succ]
        refine wpAnyH_take (i := 9) (oi := ?oiq66) (v := ?vq66) ?hiq66 (by kernel_rfl) (by kernel_rfl) (by kernel_rfl) ?hqq66 ?hyq66 hHeld ?restq66
        case hiq66 => exact rfl
        case hqq66 => exact fun _ _ _ h => h
        case hyq66 =>
          refine Or.inl ⟨by rfl, ?_⟩
          intro w hSw
          go_simp
          (try with_reducible rfl)
        try simp only [Act.put, List.getElem_toArray, List.getElem_cons_succ, List.getElem_cons_zero, List.setIfInBounds_toArray, List.set_cons_zero, List.set_cons_succ]
        refine wpAnyH_ready (rs := [10]) (by kernel_rfl) (by simp) ?_
        refine AllReadyH.cons (o := ?or67_10) ?hr67_10 ?kr67_10 AllReadyH.nil
        case hr67_10 => exact rfl
        case kr67_10 =>
          intro K hK
          go_simp
          refine (HWD.out _).mono ?_
          rintro e w9 ⟨rfl, hB9⟩
          refine hK.out _ _ (hHeld.low hB9) (fun hHeld => ?_)
          clear hK K
          try simp only [Act.put, List.getElem_toArray, List.getElem_cons_succ, List.getElem_cons_zero, List.setIfInBounds_toArray, List.set_cons_zero, List.set_cons_succ]
          refine wpAnyH_take (i := 14) (oi := ?oiq63) (v := (.int .i64 (yo.hi - yo.lo - (m - l)))) ?hiq63 (by kernel_rfl) (by kernel_rfl) (by kernel_rfl) ?hqq63 ?hyq63 hHeld ?restq63
          case hiq63 => exact rfl
          case hqq63 => exact fun _ _ _ h => h
          case hyq63 =>
            refine Or.inl ⟨by rfl, ?_⟩
            intro w hSw
            go_simp
            (try with_reducible rfl)
          try simp only [Act.put, List.getElem_toArray, List.getElem_cons_succ, List.getElem_cons_zero, List.setIfInBounds_toArray, List.set_cons_zero, List.set_cons_succ]
          refine wpAnyH_take (i := 15) (oi := ?oiq64) (v := ?vq64) ?hiq64 (by kernel_rfl) (by kernel_rfl) (by kernel_rfl) ?hqq64 ?hyq64 hHeld ?restq64
          case hiq64 => exact rfl
          case hqq64 => exact fun _ _ _ h => h
          case hyq64 =>
            refine Or.inl ⟨by rfl, ?_⟩
            intro w hSw
            go_simp
            (try with_reducible rfl)
          try simp only [Act.put, List.getElem_toArray, List.getElem_cons_succ, List.getElem_cons_zero, List.setIfInBounds_toArray, List.set_cons_zero, List.set_cons_succ]
          refine wpAnyH_take (i := 16) (oi := ?oiq65) (v := ?vq65) ?hiq65 (by kernel_rfl) (by kernel_rfl) (by kernel_rfl) ?hqq65 ?hyq65 hHeld ?restq65
          case hiq65 => exact rfl
          case hqq65 => exact fun _ _ _ h => h
          case hyq65 =>
            refine Or.inl ⟨by rfl, ?_⟩
            intro w hSw
            go_simp
            (try with_reducible rfl)
          try simp only [Act.put, List.getElem_toArray, List.getElem_cons_succ, List.getElem_cons_zero, List.setIfInBounds_toArray, List.set_cons_zero, List.set_cons_succ]
          have HBF := Lib.hid hHeld.below
          refine wpAnyH_done (by kernel_rfl) ?_ _
          clear hHeld
          go_wp2_with fail
          go_ret2
          exact ⟨rfl, HBF.out⟩
  · rw [show lsA ps lo hi out mn mx = 0 by unfold lsA; rw [if_neg hz]]
    have hz1 : (vpc ps lo hi out mn mx != 0) = true := by simpa using hz
    have hz2 : (vpc ps lo hi out mn mx == 0) = false := by simpa using hz
    generalize vpc ps lo hi out mn mx = c at *
    clear hz hp hl hh hm hm2
    have x0 := HI.out.c0
    have x1 := HI.out.c1
    have x2 := HI.out.c2
    have x3 := HI.out.c3
    have x4 := HI.out.c4
    go_enter Try.func27, Try.ntmps27
    go_wp2_with fail
    refine (HV.out _ (HP.out.below HI.out.below (Nat.le_refl _)) (HL.out.below HI.out.below (Nat.le_refl _)) (HH.out.below HI.out.below (Nat.le_refl _))).mono ?_
    rintro e w1 ⟨rfl, hB⟩
    have HI1 := Lib.hid (HI.out.low hB)
    clear HI hB x0 x1 x2 x3 x4
    go_wp2_with fail
    go_ret2
    exact ⟨rfl, HI1.out.below⟩

end Go.Proofs.Ytmpgaccpdglhkaa
