/- Several texts in one. -/
import Derived.Test.YtdcoebeffbkpnaaGreatSml
import Derived.Test.YtdcoebeffbkpnaaGreatFxC
import Derived.Test.YtdcoebeffbkpnaaGreatRdcA
import Derived.Test.YtdcoebeffbkpnaaGreatRgR
import Derived.Test.YtdcoebeffbkpnaaGreatFxW
/- Reduce of the document's side. -/
set_option linter.unusedVariables false
set_option linter.unusedSimpArgs false
namespace Go.Proofs.YtdcoebeffbkpnaaGreat
open Go.RowKit Tinker

theorem ec_take (zs : List E) (i : Nat) : ec (zs.take i) = (ec zs).take (i * 5) := by
  induction zs generalizing i with
  | nil => simp [ec]
  | cons z r ih =>
    cases i with
    | zero => simp [ec]
    | succ i =>
      rw [List.take_succ_cons, ec_cons, ec_cons, ih, show (i + 1) * 5 = i * 5 + 5 by omega]
      rfl
theorem ec_drop (zs : List E) (i : Nat) : ec (zs.drop i) = (ec zs).drop (i * 5) := by
  induction zs generalizing i with
  | nil => simp [ec]
  | cons z r ih =>
    cases i with
    | zero => simp
    | succ i =>
      rw [List.drop_succ_cons, ih, ec_cons, show (i + 1) * 5 = i * 5 + 5 by omega]
      rfl
/-- A part of an own row of edits, as a slice sees it. -/
theorem cells_part {W : World} {base gg n c : Nat} {zs : List E} (h : W.ownsRow base 65 5 (.slice (some ⟨gg, 0, none⟩) n c) n (ec zs)) (i : Nat) : ∀ j u, (ec (zs.drop i))[j]? = some u → W.cell? ((⟨gg, i * 5, none⟩ : Addr).add j) = some u := by
  intro j u hu
  have e : (⟨gg, i * 5, none⟩ : Addr).add j = ⟨gg, i * 5 + j, none⟩ := by simp [Addr.add]
  rw [e]
  rw [ec_drop, List.getElem?_drop] at hu
  exact own_cell h hu
theorem cells_head {W : World} {base gg n c : Nat} {zs : List E} (h : W.ownsRow base 65 5 (.slice (some ⟨gg, 0, none⟩) n c) n (ec zs)) (i : Nat) : ∀ j u, (ec (zs.take i))[j]? = some u → W.cell? ((⟨gg, 0, none⟩ : Addr).add j) = some u := by
  intro j u hu
  have e : (⟨gg, 0, none⟩ : Addr).add j = ⟨gg, j, none⟩ := by simp [Addr.add]; exact fun h => h.symm
  rw [e]
  rw [ec_take, List.getElem?_take] at hu
  split at hu
  · exact own_cell h hu
  · cases hu

theorem rd_own {W : World} {base n m : Nat} {v : Value} {us vs : List E} (h : W.ownsRow base 65 5 v (n + m) (ec us ++ ec vs)) : W.ownsRow base 65 5 v (n + m) (ec (us ++ vs)) := by rw [ec_append]; exact h
theorem rd_sub1 {zs xs : List E} (h : zs.Sublist xs) (j : Nat) : (zs.take j ++ zs.drop (j + 1)).Sublist xs := by
  refine List.Sublist.trans ?_ h
  conv => rhs; rw [← List.take_append_drop j zs]
  refine List.Sublist.append (List.Sublist.refl _) ?_
  rw [← List.drop_drop]
  exact List.drop_sublist _ _

set_option maxRecDepth 100000 in
set_option maxHeartbeats 4000000 in
theorem rReduce_any (a g h : Option Addr) (ca cg ch : Nat) (ps : List L) (xs : List E) (ts : List T) (w : World) (hp : LinesAt w a ps) (hx : EditsAt w g xs) (hts : TestsAt w h ts) (hc : a = none → ca = 0) (hcg : g = none → cg = 0) (hm : xs.length ≤ 1000) :
    Calls Tryz.prog 10 #[.slice a ps.length ca, .slice g xs.length cg, .slice h ts.length ch] w (GivesEditsE (rdR ps xs ts) (rdC ps xs ts) w) := by
  obtain ⟨i0, hi, hz0, hz1, hz2⟩ := info_parts info_edit
  have HV := Lib.hid (fun w h1 h2 h3 => rtested4_any a g h ca cg ch ps xs ts w h1 h2 h3 hm)
  have HP := Lib.hid hp
  have HX := Lib.hid hx
  have HT := Lib.hid hts
  clear hp hx hts
  by_cases hz : vpx ps xs (vts ts) = 0
  · have hok := okX_of hz
    have hvt := (vpx_ok hz).2.2.1
    have HG := Lib.hid (fun b c z w h1 h2 h3 (hs : z.Sublist xs) => rGood_any a b h ca c ch ps z ts w h1 hc h2 h3 (hok.sub hs) hvt)
    have h4 := hok.len
    have HE := Lib.hid (show rdC ps xs ts = if gdB ps ts xs then 0 else 6 by unfold rdC; rw [if_pos hz])
    have HR := Lib.hid (show rdC ps xs ts = 0 → rdR ps xs ts = rdTo (gdB ps ts) xs xs.length from fun h => by unfold rdR; rw [if_pos h]; rfl)
    have HR0 := Lib.hid (show rdC ps xs ts ≠ 0 → rdR ps xs ts = [] from fun h => by unfold rdR; rw [if_neg h])
    rw [hz] at HV
    clear hz hok hvt hc
    generalize rdC ps xs ts = C at HE HR HR0 ⊢
    generalize rdR ps xs ts = R at HR HR0 ⊢
    generalize gdB ps ts = gd at HG HE HR
    cases h0 : gd xs
    · have HG0 := Lib.hid (fun w h1 h2 h3 => HG.out g cg xs w h1 h2 h3 (List.Sublist.refl xs))
      rw [h0] at HG0
      have HC := Lib.hid (show C = 6 by rw [HE.out, h0]; rfl)
      have HRR := Lib.hid (HR0.out (by rw [HC.out]; decide))
      clear h0 HE HG HR HR0
      go_enter Tryz.func10, Tryz.ntmps10
      go_wp2_with fail
      refine (HV.out _ HP.out HX.out HT.out).mono ?_
      rintro e w1 ⟨rfl, hB1⟩
      have HB1 := Lib.hid hB1
      clear hB1 
      go_wp2_with fail
      refine (HG0.out _ (HP.out.below HB1.out (Nat.le_refl _)) (HX.out.below HB1.out (Nat.le_refl _)) (HT.out.below HB1.out (Nat.le_refl _))).mono ?_
      rintro e w2 ⟨rfl, hB2⟩
      have HB2 := Lib.hid (HB1.out.trans (hB2.mono HB1.out.size))
      clear hB2 
      go_wp2_with fail
      go_ret2
      rw [HC.out, HRR.out]
      exact givesEditsE_nil HB2.out
    · have HG0 := Lib.hid (fun w h1 h2 h3 => HG.out g cg xs w h1 h2 h3 (List.Sublist.refl xs))
      rw [h0] at HG0
      have HC := Lib.hid (show C = 0 by rw [HE.out, h0]; rfl)
      have HRR := Lib.hid (HR.out HC.out)
      clear h0 HE HR HR0
      go_enter Tryz.func10, Tryz.ntmps10
      go_wp2_with fail
      refine (HV.out _ HP.out HX.out HT.out).mono ?_
      rintro e w1 ⟨rfl, hB1⟩
      have HB1 := Lib.hid hB1
      clear hB1 
      go_wp2_with fail
      refine (HG0.out _ (HP.out.below HB1.out (Nat.le_refl _)) (HX.out.below HB1.out (Nat.le_refl _)) (HT.out.below HB1.out (Nat.le_refl _))).mono ?_
      rintro e w2 ⟨rfl, hB2⟩
      have HB2 := Lib.hid (HB1.out.trans (hB2.mono HB1.out.size))
      clear hB2 
      go_upto_region 6 with fail
      have hown := World.ownsRow_lit (base := w.heap.size) (e := 65) (size := 5) w2 #[] 0 HB2.out.size (by simp [maxLen]) (by simp)
      have HXX := Lib.hid (HX.out.below HB2.out (Nat.le_refl _))
      go_cut [9] (fun s9 wx => wx.ownsRow w.heap.size 65 5 s9 xs.length (ec xs) ∧ Below w.heap.size w wx)
      case first =>
        clear HG HG0 HP HT HV
        cases g with
        | none =>
          have hps := HXX.out.none
          have hc0 := hcg rfl
          subst hps
          subst hc0
          go_wp2_with (at_builtin; (refine wpList_append_own_none rfl (.tmp 24) (.tmp 25) 23 rfl w.heap.size 65 i0 5 Tryz.underlying23 hi _ 0 [] rfl hown rfl ?_))
          have HO := Lib.hid hown
          clear hown
          go_wp2_with fail
          go_meet
          exact ⟨HO.out, HB2.out.alloc HB2.out.size _⟩
        | some ad =>
          have HC := Lib.hid HXX.out.cells
          go_wp2_with (at_builtin; (refine wpList_append_own _ rfl (.tmp 24) (.tmp 25) 23 rfl w.heap.size 65 i0 (.agg #[.int .i64 0, .int .i64 0, .int .i64 0, .int .i64 0, .int .i64 0]) 5 40 Tryz.underlying23 hi hz0 hz1 hz2 rfl (by decide) _ 0 [] rfl hown ad xs.length cg (ec xs) rfl ?c1 ?c2 ?c3 ?c4 ?c5 ?c6 ?_))
          case c1 => exact ec_length xs
          case c2 => intro j u hu; exact cell_alloc_keep (HC.out j u hu)
          case c3 => exact ec_one xs
          case c4 => simp [maxLen]; omega
          case c5 => omega
          case c6 => have h9 := HB2.out.size; first | (simp; omega) | omega
          intro v' w3 hown1 hgrow _
          have HB := Lib.hid (show Below w.heap.size w w3 from (HB2.out.alloc HB2.out.size _).grown hgrow (by have h9 := HB2.out.size; simp; omega) (by rintro k hk; exact (hown.lt k hk).1))
          have HO := Lib.hid (show w3.ownsRow w.heap.size 65 5 v' xs.length (ec xs) by simpa using hown1)
          clear hown1 hown hgrow
          go_wp2_with fail
          go_meet
          exact ⟨HO.out, HB.out⟩
      case rest =>
        obtain ⟨hO0, hB0⟩ := hcut
        have HO0 := Lib.hid hO0
        have HBc := Lib.hid hB0
        clear hO0 hB0 HXX hown HG0 HV
        have HS0 := Lib.hid (rdTo_sub gd xs)
        have HLr := Lib.hid (rdTo_len gd xs)
        have HSu := Lib.hid (show ∀ k, rdTo gd xs (k + 1) = rdS gd (rdTo gd xs k) (xs.length - (k + 1)) from fun k => rfl)
        go_wp2_with fail
        go_loopw [9, 10] (fun s9 s10 wr => ∃ k : Nat, k ≤ xs.length ∧ s10 = .int .i64 ((xs.length : Int) - 1 - k) ∧ wr.ownsRow w.heap.size 65 5 s9 (rdTo gd xs k).length (ec (rdTo gd xs k)) ∧ Below w.heap.size w wr) (fun _ s10 _ => (intOf s10 + 1).toNat)
        case atStart => exact ⟨0, Nat.zero_le _, by go_num, HO0.out, HBc.out⟩
        case round =>
          clear HO0 HBc
          obtain ⟨k, hk, rfl, hO, hB⟩ := hrel
          by_cases hlt : k < xs.length
          · have hle := HLr.out k (by omega)
            have hsl := (HS0.out k).length_le
            have HSk := Lib.hid (HS0.out k)
            have HSuk := Lib.hid (HSu.out k)
            generalize hj : xs.length - (k + 1) = j at HSuk
            have hji : (xs.length : Int) - 1 - (k : Int) = (j : Int) := by omega
            have HJ := Lib.hid hj
            rw [hji]
            have hjn : (rdTo gd xs k).length ≥ j + 1 := by omega
            generalize hzs : rdTo gd xs k = zs at *
            have HZs := Lib.hid hzs
            clear hzs hj
            obtain ⟨va, c, rfl⟩ := own_slice hO
            obtain ⟨gg, rfl⟩ := own_form hO (by omega)
            have hcap := own_cap hO
            have HBo := Lib.hid hB
            have HO := Lib.hid hO
            have HCH := Lib.hid (fun W (h : Below wr.heap.size wr W) => cells_head (own_below HO.out h (Nat.le_refl _)) j)
            have HCD := Lib.hid (fun W (h : Below wr.heap.size wr W) => cells_part (own_below HO.out h (Nat.le_refl _)) (j + 1))
            have HB0 := Lib.hid (show Below wr.heap.size wr wr.drew from ⟨rfl, rfl, rfl, Nat.le_refl _, fun _ _ => rfl⟩)
            have q0 : (0 : Int) ≤ (j : Int) := by omega
            have hwj : IntKind.i64.wrap ((j : Int) + 1) = (j : Int) + 1 := IntWalk.i64_in _ (by omega)
            clear hO hB hji
            by_cases hcj : c = j + 1
            · have HZJ := Lib.hid (show zs.length = j + 1 by omega)
              subst hcj
              go_upto_region 10 with fail
              refine wp_region_held_drew (S := (fun W => Below wr.heap.size wr W)) (by kernel_rfl) ?_ (fun hHeld => ?_)
              · exact HB0.out
              generalize wr.drew = Wd at *
              refine wpAnyH_take (i := 1) (oi := ?oiq1) (v := ?vq1) ?hiq1 (by kernel_rfl) (by decide +kernel) (by decide +kernel) ?hqq1 ?hyq1 hHeld ?restq1
              case hiq1 => exact rfl
              case hqq1 => exact fun _ _ _ h => h
              case hyq1 =>
                refine Or.inl ⟨by rfl, ?_⟩
                intro w hSw
                go_simp
                (try with_reducible rfl)
              try simp only [Act.put, List.getElem_toArray, List.getElem_cons_succ, List.getElem_cons_zero, List.setIfInBounds_toArray, List.set_cons_zero, List.set_cons_succ]
              refine wpAnyH_take (i := 2) (oi := ?oiq2) (v := ?vq2) ?hiq2 (by kernel_rfl) (by decide +kernel) (by decide +kernel) ?hqq2 ?hyq2 hHeld ?restq2
              case hiq2 => exact rfl
              case hqq2 => exact fun _ _ _ h => h
              case hyq2 =>
                refine Or.inl ⟨by rfl, ?_⟩
                intro w hSw
                go_simp
                (try with_reducible rfl)
              try simp only [Act.put, List.getElem_toArray, List.getElem_cons_succ, List.getElem_cons_zero, List.setIfInBounds_toArray, List.set_cons_zero, List.set_cons_succ]
              refine wpAnyH_take (i := 3) (oi := ?oiq3) (v := (.slice (some ⟨gg, 0, none⟩) j (j + 1))) ?hiq3 (by kernel_rfl) (by decide +kernel) (by decide +kernel) ?hqq3 ?hyq3 hHeld ?restq3
              case hiq3 => exact rfl
              case hqq3 => exact fun _ _ _ h => h
              case hyq3 =>
                refine Or.inl ⟨by rfl, ?_⟩
                intro w hSw
                go_simp
                (try rw [if_pos (by omega)])
                (try (intro h9; omega))
                (try rfl)
                (try with_reducible rfl)
              try simp only [Act.put, List.getElem_toArray, List.getElem_cons_succ, List.getElem_cons_zero, List.setIfInBounds_toArray, List.set_cons_zero, List.set_cons_succ]
              refine wpAnyH_take (i := 5) (oi := ?oiq4) (v := ?vq4) ?hiq4 (by kernel_rfl) (by decide +kernel) (by decide +kernel) ?hqq4 ?hyq4 hHeld ?restq4
              case hiq4 => exact rfl
              case hqq4 => exact fun _ _ _ h => h
              case hyq4 =>
                refine Or.inl ⟨by rfl, ?_⟩
                intro w hSw
                go_simp
                (try with_reducible rfl)
              try simp only [Act.put, List.getElem_toArray, List.getElem_cons_succ, List.getElem_cons_zero, List.setIfInBounds_toArray, List.set_cons_zero, List.set_cons_succ]
              refine wpAnyH_take (i := 6) (oi := ?oiq5) (v := ?vq5) ?hiq5 (by kernel_rfl) (by decide +kernel) (by decide +kernel) ?hqq5 ?hyq5 hHeld ?restq5
              case hiq5 => exact rfl
              case hqq5 => exact fun _ _ _ h => h
              case hyq5 =>
                refine Or.inl ⟨by rfl, ?_⟩
                intro w hSw
                go_simp
                (try with_reducible rfl)
              try simp only [Act.put, List.getElem_toArray, List.getElem_cons_succ, List.getElem_cons_zero, List.setIfInBounds_toArray, List.set_cons_zero, List.set_cons_succ]
              refine wpAnyH_take (i := 7) (oi := ?oiq6) (v := (.int .i64 ((j : Int) + 1))) ?hiq6 (by kernel_rfl) (by decide +kernel) (by decide +kernel) ?hqq6 ?hyq6 hHeld ?restq6
              case hiq6 => exact rfl
              case hqq6 => exact fun _ _ _ h => h
              case hyq6 =>
                refine Or.inl ⟨by rfl, ?_⟩
                intro w hSw
                go_simp
                (try rw [hwj])
                (try rfl)
                (try with_reducible rfl)
              try simp only [Act.put, List.getElem_toArray, List.getElem_cons_succ, List.getElem_cons_zero, List.setIfInBounds_toArray, List.set_cons_zero, List.set_cons_succ]
              refine wpAnyH_take (i := 8) (oi := ?oiq7) (v := (.slice (some ⟨gg, 0, none⟩) 0 0)) ?hiq7 (by kernel_rfl) (by decide +kernel) (by decide +kernel) ?hqq7 ?hyq7 hHeld ?restq7
              case hiq7 => exact rfl
              case hqq7 => exact fun _ _ _ h => h
              case hyq7 =>
                refine Or.inl ⟨by rfl, ?_⟩
                intro w hSw
                go_simp
                (try rw [if_pos (by omega)])
                (try simp [])
                (try rfl)
                (try omega)
                (try with_reducible rfl)
              try simp only [Act.put, List.getElem_toArray, List.getElem_cons_succ, List.getElem_cons_zero, List.setIfInBounds_toArray, List.set_cons_zero, List.set_cons_succ]
              refine wpAnyH_ready (rs := [0]) (by kernel_rfl) (by simp) ?_
              refine AllReadyH.cons (o := ?or11_0) ?hr11_0 ?kr11_0 AllReadyH.nil
              case hr11_0 => exact rfl
              case kr11_0 =>
                intro K hK
                go_simp
                have hal := (Below.refl Wd.heap.size Wd).alloc (Nat.le_refl _) (.cells #[] 65)
                have HB1 := Lib.hid (HB0.out.alloc HB0.out.size (.cells #[] 65))
                have HO1 := Lib.hid (World.ownsRow_lit (base := wr.heap.size) (e := 65) (size := 5) Wd #[] 0 HB0.out.size (by simp [maxLen]) (by simp))
                have HC1 := Lib.hid (HCH.out _ HB1.out)
                clear hal
                refine hK.out _ _ HB1.out (fun hHeld => ?_)
                clear hK K
                try simp only [Act.put, List.getElem_toArray, List.getElem_cons_succ, List.getElem_cons_zero, List.setIfInBounds_toArray, List.set_cons_zero, List.set_cons_succ]
                refine wpAnyH_ready (rs := [4]) (by kernel_rfl) (by simp) ?_
                refine AllReadyH.cons (o := ?or10_4) ?hr10_4 ?kr10_4 AllReadyH.nil
                case hr10_4 => exact rfl
                case kr10_4 =>
                  intro K hK
                  rw [if_pos (by rfl)]
                  refine wp_append_new (.tmp 34) (.tmp 37) 23 rfl wr.heap.size 65 i0 (.agg #[.int .i64 0, .int .i64 0, .int .i64 0, .int .i64 0, .int .i64 0]) 5 40 Tryz.underlying23 hi hz0 hz1 hz2 rfl (by decide) (.slice (some ⟨Wd.heap.size, 0, none⟩) 0 0) 0 [] rfl HO1.out ⟨gg, 0, none⟩ j (j + 1) (ec (zs.take j)) rfl (by rw [ec_length, List.length_take, Nat.min_eq_left (by omega)]) HC1.out (ec_one _) (by first | (simp [maxLen]; done) | (simp [maxLen]; omega)) (by omega) HB1.out.size ?_
                  intro v5 W2 hown5 hgrow5 _
                  have HB2x := Lib.hid (HB1.out.grown hgrow5 HB1.out.size (by rintro k hk; exact (HO1.out.lt k hk).1))
                  have HO2 := Lib.hid (show W2.ownsRow wr.heap.size 65 5 v5 j (ec (zs.take j)) by simpa using hown5)
                  have HC2 := Lib.hid (HCD.out W2 HB2x.out)
                  clear hown5 hgrow5
                  refine hK.out _ _ HB2x.out (fun hHeld => ?_)
                  clear hK K
                  try simp only [Act.put, List.getElem_toArray, List.getElem_cons_succ, List.getElem_cons_zero, List.setIfInBounds_toArray, List.set_cons_zero, List.set_cons_succ]
                  refine wpAnyH_ready (rs := [9]) (by kernel_rfl) (by simp) ?_
                  refine AllReadyH.cons (o := ?or9_9) ?hr9_9 ?kr9_9 AllReadyH.nil
                  case hr9_9 => exact rfl
                  case kr9_9 =>
                    intro K hK
                    rw [if_pos (by rfl)]
                    refine wp_append_new (.tmp 38) (.tmp 42) 23 rfl wr.heap.size 65 i0 (.agg #[.int .i64 0, .int .i64 0, .int .i64 0, .int .i64 0, .int .i64 0]) 5 40 Tryz.underlying23 hi hz0 hz1 hz2 rfl (by decide) v5 j (ec (zs.take j)) rfl HO2.out ⟨gg, 0, none⟩ 0 0 (ec ([] : List E)) rfl (by rfl) (by intro x u hu; simp [ec] at hu) (ec_one _) (by first | (simp [maxLen]; done) | (simp [maxLen]; omega)) (by omega) HB2x.out.size ?_
                    intro v6 W3 hown6 hgrow6 _
                    have HB3 := Lib.hid (HB2x.out.grown hgrow6 HB2x.out.size (by rintro k hk; exact (HO2.out.lt k hk).1))
                    have HO3 := Lib.hid (rd_own hown6)
                    clear hown6 hgrow6
                    refine hK.out _ _ HB3.out (fun hHeld => ?_)
                    clear hK K
                    try simp only [Act.put, List.getElem_toArray, List.getElem_cons_succ, List.getElem_cons_zero, List.setIfInBounds_toArray, List.set_cons_zero, List.set_cons_succ]
                    refine wpAnyH_ready (rs := [10]) (by kernel_rfl) (by simp) ?_
                    refine AllReadyH.cons (o := ?or8_10) ?hr8_10 ?kr8_10 AllReadyH.nil
                    case hr8_10 => exact rfl
                    case kr8_10 =>
                      intro K hK
                      go_simp
                      refine hK.out _ _ HB3.out (fun hHeld => ?_)
                      clear hK K
                      try simp only [Act.put, List.getElem_toArray, List.getElem_cons_succ, List.getElem_cons_zero, List.setIfInBounds_toArray, List.set_cons_zero, List.set_cons_succ]
                      refine wpAnyH_done (by kernel_rfl) ?_ _
                      clear hHeld
                      have HLs := Lib.hid (show (zs.take j ++ ([] : List E)).length = j + 0 by rw [List.length_append, List.length_take]; simp; omega)
                      have HSz := Lib.hid (show (zs.take j ++ ([] : List E)).Sublist xs by have h9 : zs.drop (j + 1) = [] := List.drop_of_length_le (by rw [HZJ.out]; exact Nat.le_refl _); rw [← h9]; exact rd_sub1 HSk.out j)
                      have HRS := Lib.hid (show rdS gd zs j = if gd (zs.take j ++ ([] : List E)) then zs.take j ++ ([] : List E) else zs by have h9 : zs.drop (j + 1) = [] := List.drop_of_length_le (by rw [HZJ.out]; exact Nat.le_refl _); rw [← h9]; rfl)
                      obtain ⟨v6a, v6c, rfl⟩ := own_slice HO3.out
                      have HE6 := Lib.hid (edits_of_own HO3.out).1
                      have HOk := Lib.hid (own_below HO.out HB3.out (Nat.le_refl _))
                      have HO3 := Lib.hid (own_mono HO3.out HBo.out.size)
                      generalize zs.take j ++ ([] : List E) = less at HLs HSz HRS HE6 HO3
                      generalize hln : j + 0 = ln at HE6 HO3 HLs ⊢
                      clear hln
                      have HG3 := Lib.hid (fun w h1 h2 h3 => HG.out v6a v6c less w h1 h2 h3 HSz.out)
                      rw [HLs.out] at HG3
                      cases hg : gd less
                      · have HN := Lib.hid (show rdTo gd xs (k + 1) = zs by rw [HSuk.out, HRS.out, hg]; rfl)
                        rw [hg] at HG3
                        clear hg
                        go_wp2_with fail
                        refine (HG3.out _ (HP.out.below (HBo.out.trans (HB3.out.mono HBo.out.size)) (Nat.le_refl _)) HE6.out (HT.out.below (HBo.out.trans (HB3.out.mono HBo.out.size)) (Nat.le_refl _))).mono ?_
                        rintro e w7 ⟨rfl, hB7⟩
                        have HO7 := Lib.hid (own_below HOk.out hB7 (Nat.le_refl _))
                        have HB7 := Lib.hid ((HBo.out.trans (HB3.out.mono HBo.out.size)).trans (hB7.mono (HBo.out.trans (HB3.out.mono HBo.out.size)).size))
                        clear hB7
                        go_wp2_with fail
                        go_roundw
                        case rel => exact ⟨k + 1, by omega, by have h9 := HJ.out; go_num, by rw [HN.out]; exact HO7.out, HB7.out⟩
                        case measure => simp [intOf]
                      · have HN := Lib.hid (show rdTo gd xs (k + 1) = less by rw [HSuk.out, HRS.out, hg]; rfl)
                        rw [hg] at HG3
                        clear hg
                        go_wp2_with fail
                        refine (HG3.out _ (HP.out.below (HBo.out.trans (HB3.out.mono HBo.out.size)) (Nat.le_refl _)) HE6.out (HT.out.below (HBo.out.trans (HB3.out.mono HBo.out.size)) (Nat.le_refl _))).mono ?_
                        rintro e w7 ⟨rfl, hB7⟩
                        have HO7 := Lib.hid (own_below HO3.out hB7 (Nat.le_refl _))
                        have HB7 := Lib.hid ((HBo.out.trans (HB3.out.mono HBo.out.size)).trans (hB7.mono (HBo.out.trans (HB3.out.mono HBo.out.size)).size))
                        clear hB7
                        go_wp2_with fail
                        go_roundw
                        case rel => exact ⟨k + 1, by omega, by have h9 := HJ.out; go_num, by rw [HN.out, HLs.out]; exact HO7.out, HB7.out⟩
                        case measure => simp [intOf]
            · go_upto_region 10 with fail
              refine wp_region_held_drew (S := (fun W => Below wr.heap.size wr W)) (by kernel_rfl) ?_ (fun hHeld => ?_)
              · exact HB0.out
              generalize wr.drew = Wd at *
              refine wpAnyH_take (i := 1) (oi := ?oiz1) (v := ?vz1) ?hiz1 (by kernel_rfl) (by decide +kernel) (by decide +kernel) ?hqz1 ?hyz1 hHeld ?restz1
              case hiz1 => exact rfl
              case hqz1 => exact fun _ _ _ h => h
              case hyz1 =>
                refine Or.inl ⟨by rfl, ?_⟩
                intro w hSw
                go_simp
                (try with_reducible rfl)
              try simp only [Act.put, List.getElem_toArray, List.getElem_cons_succ, List.getElem_cons_zero, List.setIfInBounds_toArray, List.set_cons_zero, List.set_cons_succ]
              refine wpAnyH_take (i := 2) (oi := ?oiz2) (v := ?vz2) ?hiz2 (by kernel_rfl) (by decide +kernel) (by decide +kernel) ?hqz2 ?hyz2 hHeld ?restz2
              case hiz2 => exact rfl
              case hqz2 => exact fun _ _ _ h => h
              case hyz2 =>
                refine Or.inl ⟨by rfl, ?_⟩
                intro w hSw
                go_simp
                (try with_reducible rfl)
              try simp only [Act.put, List.getElem_toArray, List.getElem_cons_succ, List.getElem_cons_zero, List.setIfInBounds_toArray, List.set_cons_zero, List.set_cons_succ]
              refine wpAnyH_take (i := 3) (oi := ?oiz3) (v := (.slice (some ⟨gg, 0, none⟩) j c)) ?hiz3 (by kernel_rfl) (by decide +kernel) (by decide +kernel) ?hqz3 ?hyz3 hHeld ?restz3
              case hiz3 => exact rfl
              case hqz3 => exact fun _ _ _ h => h
              case hyz3 =>
                refine Or.inl ⟨by rfl, ?_⟩
                intro w hSw
                go_simp
                (try rw [if_pos (by omega)])
                (try (intro h9; omega))
                (try rfl)
                (try with_reducible rfl)
              try simp only [Act.put, List.getElem_toArray, List.getElem_cons_succ, List.getElem_cons_zero, List.setIfInBounds_toArray, List.set_cons_zero, List.set_cons_succ]
              refine wpAnyH_take (i := 5) (oi := ?oiz4) (v := ?vz4) ?hiz4 (by kernel_rfl) (by decide +kernel) (by decide +kernel) ?hqz4 ?hyz4 hHeld ?restz4
              case hiz4 => exact rfl
              case hqz4 => exact fun _ _ _ h => h
              case hyz4 =>
                refine Or.inl ⟨by rfl, ?_⟩
                intro w hSw
                go_simp
                (try with_reducible rfl)
              try simp only [Act.put, List.getElem_toArray, List.getElem_cons_succ, List.getElem_cons_zero, List.setIfInBounds_toArray, List.set_cons_zero, List.set_cons_succ]
              refine wpAnyH_take (i := 6) (oi := ?oiz5) (v := ?vz5) ?hiz5 (by kernel_rfl) (by decide +kernel) (by decide +kernel) ?hqz5 ?hyz5 hHeld ?restz5
              case hiz5 => exact rfl
              case hqz5 => exact fun _ _ _ h => h
              case hyz5 =>
                refine Or.inl ⟨by rfl, ?_⟩
                intro w hSw
                go_simp
                (try with_reducible rfl)
              try simp only [Act.put, List.getElem_toArray, List.getElem_cons_succ, List.getElem_cons_zero, List.setIfInBounds_toArray, List.set_cons_zero, List.set_cons_succ]
              refine wpAnyH_take (i := 7) (oi := ?oiz6) (v := (.int .i64 ((j : Int) + 1))) ?hiz6 (by kernel_rfl) (by decide +kernel) (by decide +kernel) ?hqz6 ?hyz6 hHeld ?restz6
              case hiz6 => exact rfl
              case hqz6 => exact fun _ _ _ h => h
              case hyz6 =>
                refine Or.inl ⟨by rfl, ?_⟩
                intro w hSw
                go_simp
                (try rw [hwj])
                (try rfl)
                (try with_reducible rfl)
              try simp only [Act.put, List.getElem_toArray, List.getElem_cons_succ, List.getElem_cons_zero, List.setIfInBounds_toArray, List.set_cons_zero, List.set_cons_succ]
              refine wpAnyH_take (i := 8) (oi := ?oiz7) (v := (.slice (some ⟨gg, (j + 1) * 5, none⟩) (zs.length - (j + 1)) (c - (j + 1)))) ?hiz7 (by kernel_rfl) (by decide +kernel) (by decide +kernel) ?hqz7 ?hyz7 hHeld ?restz7
              case hiz7 => exact rfl
              case hqz7 => exact fun _ _ _ h => h
              case hyz7 =>
                refine Or.inl ⟨by rfl, ?_⟩
                intro w hSw
                go_simp
                (try rw [if_pos (by omega)])
                (try simp [hcj])
                (try rfl)
                (try omega)
                (try with_reducible rfl)
              try simp only [Act.put, List.getElem_toArray, List.getElem_cons_succ, List.getElem_cons_zero, List.setIfInBounds_toArray, List.set_cons_zero, List.set_cons_succ]
              refine wpAnyH_ready (rs := [0]) (by kernel_rfl) (by simp) ?_
              refine AllReadyH.cons (o := ?oy11_0) ?hy11_0 ?ky11_0 AllReadyH.nil
              case hy11_0 => exact rfl
              case ky11_0 =>
                intro K hK
                go_simp
                have hal := (Below.refl Wd.heap.size Wd).alloc (Nat.le_refl _) (.cells #[] 65)
                have HB1 := Lib.hid (HB0.out.alloc HB0.out.size (.cells #[] 65))
                have HO1 := Lib.hid (World.ownsRow_lit (base := wr.heap.size) (e := 65) (size := 5) Wd #[] 0 HB0.out.size (by simp [maxLen]) (by simp))
                have HC1 := Lib.hid (HCH.out _ HB1.out)
                clear hal
                refine hK.out _ _ HB1.out (fun hHeld => ?_)
                clear hK K
                try simp only [Act.put, List.getElem_toArray, List.getElem_cons_succ, List.getElem_cons_zero, List.setIfInBounds_toArray, List.set_cons_zero, List.set_cons_succ]
                refine wpAnyH_ready (rs := [4]) (by kernel_rfl) (by simp) ?_
                refine AllReadyH.cons (o := ?oy10_4) ?hy10_4 ?ky10_4 AllReadyH.nil
                case hy10_4 => exact rfl
                case ky10_4 =>
                  intro K hK
                  rw [if_pos (by rfl)]
                  refine wp_append_new (.tmp 34) (.tmp 37) 23 rfl wr.heap.size 65 i0 (.agg #[.int .i64 0, .int .i64 0, .int .i64 0, .int .i64 0, .int .i64 0]) 5 40 Tryz.underlying23 hi hz0 hz1 hz2 rfl (by decide) (.slice (some ⟨Wd.heap.size, 0, none⟩) 0 0) 0 [] rfl HO1.out ⟨gg, 0, none⟩ j c (ec (zs.take j)) rfl (by rw [ec_length, List.length_take, Nat.min_eq_left (by omega)]) HC1.out (ec_one _) (by first | (simp [maxLen]; done) | (simp [maxLen]; omega)) (by omega) HB1.out.size ?_
                  intro v5 W2 hown5 hgrow5 _
                  have HB2x := Lib.hid (HB1.out.grown hgrow5 HB1.out.size (by rintro k hk; exact (HO1.out.lt k hk).1))
                  have HO2 := Lib.hid (show W2.ownsRow wr.heap.size 65 5 v5 j (ec (zs.take j)) by simpa using hown5)
                  have HC2 := Lib.hid (HCD.out W2 HB2x.out)
                  clear hown5 hgrow5
                  refine hK.out _ _ HB2x.out (fun hHeld => ?_)
                  clear hK K
                  try simp only [Act.put, List.getElem_toArray, List.getElem_cons_succ, List.getElem_cons_zero, List.setIfInBounds_toArray, List.set_cons_zero, List.set_cons_succ]
                  refine wpAnyH_ready (rs := [9]) (by kernel_rfl) (by simp) ?_
                  refine AllReadyH.cons (o := ?oy9_9) ?hy9_9 ?ky9_9 AllReadyH.nil
                  case hy9_9 => exact rfl
                  case ky9_9 =>
                    intro K hK
                    rw [if_pos (by rfl)]
                    refine wp_append_new (.tmp 38) (.tmp 42) 23 rfl wr.heap.size 65 i0 (.agg #[.int .i64 0, .int .i64 0, .int .i64 0, .int .i64 0, .int .i64 0]) 5 40 Tryz.underlying23 hi hz0 hz1 hz2 rfl (by decide) v5 j (ec (zs.take j)) rfl HO2.out ⟨gg, (j + 1) * 5, none⟩ (zs.length - (j + 1)) (c - (j + 1)) (ec (zs.drop (j + 1))) rfl (by rw [ec_length, List.length_drop]) HC2.out (ec_one _) (by first | (simp [maxLen]; done) | (simp [maxLen]; omega)) (by omega) HB2x.out.size ?_
                    intro v6 W3 hown6 hgrow6 _
                    have HB3 := Lib.hid (HB2x.out.grown hgrow6 HB2x.out.size (by rintro k hk; exact (HO2.out.lt k hk).1))
                    have HO3 := Lib.hid (rd_own hown6)
                    clear hown6 hgrow6
                    refine hK.out _ _ HB3.out (fun hHeld => ?_)
                    clear hK K
                    try simp only [Act.put, List.getElem_toArray, List.getElem_cons_succ, List.getElem_cons_zero, List.setIfInBounds_toArray, List.set_cons_zero, List.set_cons_succ]
                    refine wpAnyH_ready (rs := [10]) (by kernel_rfl) (by simp) ?_
                    refine AllReadyH.cons (o := ?oy8_10) ?hy8_10 ?ky8_10 AllReadyH.nil
                    case hy8_10 => exact rfl
                    case ky8_10 =>
                      intro K hK
                      go_simp
                      refine hK.out _ _ HB3.out (fun hHeld => ?_)
                      clear hK K
                      try simp only [Act.put, List.getElem_toArray, List.getElem_cons_succ, List.getElem_cons_zero, List.setIfInBounds_toArray, List.set_cons_zero, List.set_cons_succ]
                      refine wpAnyH_done (by kernel_rfl) ?_ _
                      clear hHeld
                      have HLs := Lib.hid (show (zs.take j ++ zs.drop (j + 1)).length = j + (zs.length - (j + 1)) by rw [List.length_append, List.length_take]; simp; omega)
                      have HSz := Lib.hid (show (zs.take j ++ zs.drop (j + 1)).Sublist xs by exact rd_sub1 HSk.out j)
                      have HRS := Lib.hid (show rdS gd zs j = if gd (zs.take j ++ zs.drop (j + 1)) then zs.take j ++ zs.drop (j + 1) else zs by rfl)
                      obtain ⟨v6a, v6c, rfl⟩ := own_slice HO3.out
                      have HE6 := Lib.hid (edits_of_own HO3.out).1
                      have HOk := Lib.hid (own_below HO.out HB3.out (Nat.le_refl _))
                      have HO3 := Lib.hid (own_mono HO3.out HBo.out.size)
                      generalize zs.take j ++ zs.drop (j + 1) = less at HLs HSz HRS HE6 HO3
                      generalize hln : j + (zs.length - (j + 1)) = ln at HE6 HO3 HLs ⊢
                      clear hln
                      have HG3 := Lib.hid (fun w h1 h2 h3 => HG.out v6a v6c less w h1 h2 h3 HSz.out)
                      rw [HLs.out] at HG3
                      cases hg : gd less
                      · have HN := Lib.hid (show rdTo gd xs (k + 1) = zs by rw [HSuk.out, HRS.out, hg]; rfl)
                        rw [hg] at HG3
                        clear hg
                        go_wp2_with fail
                        refine (HG3.out _ (HP.out.below (HBo.out.trans (HB3.out.mono HBo.out.size)) (Nat.le_refl _)) HE6.out (HT.out.below (HBo.out.trans (HB3.out.mono HBo.out.size)) (Nat.le_refl _))).mono ?_
                        rintro e w7 ⟨rfl, hB7⟩
                        have HO7 := Lib.hid (own_below HOk.out hB7 (Nat.le_refl _))
                        have HB7 := Lib.hid ((HBo.out.trans (HB3.out.mono HBo.out.size)).trans (hB7.mono (HBo.out.trans (HB3.out.mono HBo.out.size)).size))
                        clear hB7
                        go_wp2_with fail
                        go_roundw
                        case rel => exact ⟨k + 1, by omega, by have h9 := HJ.out; go_num, by rw [HN.out]; exact HO7.out, HB7.out⟩
                        case measure => simp [intOf]
                      · have HN := Lib.hid (show rdTo gd xs (k + 1) = less by rw [HSuk.out, HRS.out, hg]; rfl)
                        rw [hg] at HG3
                        clear hg
                        go_wp2_with fail
                        refine (HG3.out _ (HP.out.below (HBo.out.trans (HB3.out.mono HBo.out.size)) (Nat.le_refl _)) HE6.out (HT.out.below (HBo.out.trans (HB3.out.mono HBo.out.size)) (Nat.le_refl _))).mono ?_
                        rintro e w7 ⟨rfl, hB7⟩
                        have HO7 := Lib.hid (own_below HO3.out hB7 (Nat.le_refl _))
                        have HB7 := Lib.hid ((HBo.out.trans (HB3.out.mono HBo.out.size)).trans (hB7.mono (HBo.out.trans (HB3.out.mono HBo.out.size)).size))
                        clear hB7
                        go_wp2_with fail
                        go_roundw
                        case rel => exact ⟨k + 1, by omega, by have h9 := HJ.out; go_num, by rw [HN.out, HLs.out]; exact HO7.out, HB7.out⟩
                        case measure => simp [intOf]
          · have hke : k = xs.length := by omega
            subst hke
            have HO := Lib.hid hO
            have HB := Lib.hid hB
            obtain ⟨va, c, rfl⟩ := own_slice hO
            have hneg : (xs.length : Int) - 1 - (xs.length : Int) = -1 := by omega
            rw [hneg]
            clear hO hB hneg
            go_wp2_with fail
            go_ret2
            rw [HC.out, HRR.out]
            exact ⟨va, c, rfl, HO.out, HB.out⟩
  · have HE := Lib.hid (show rdC ps xs ts = vpx ps xs (vts ts) ∧ rdR ps xs ts = [] from ⟨by unfold rdC; rw [if_neg hz], by unfold rdR rdC; rw [if_neg hz, if_neg hz]⟩)
    rw [HE.out.1, HE.out.2]
    generalize vpx ps xs (vts ts) = c at HV hz ⊢
    have hz1 : (c != 0) = true := by simpa using hz
    have hz2 : (c == 0) = false := by simpa using hz
    clear hz HE
    go_enter Tryz.func10, Tryz.ntmps10
    go_wp2_with fail
    refine (HV.out _ HP.out HX.out HT.out).mono ?_
    rintro e w1 ⟨rfl, hB1⟩
    have HB1 := Lib.hid hB1
    clear hB1 
    go_wp2_with fail
    go_ret2
    exact givesEditsE_nil HB1.out

end Go.Proofs.YtdcoebeffbkpnaaGreat

/- Reduce of patch: contract. -/
set_option linter.unusedVariables false
set_option linter.unusedSimpArgs false
namespace Go.Proofs.YtdcoebeffbkpnaaGreat
open Go.RowKit Go.Shelf Tinker
attribute [local go_sem] Oper.semAt_some

/-- The edits of a patch with their numbers, from the last one to the first one. -/
theorem back_edits (xs : List E) (h8 : xs.length ≤ 8) : ∃ rs : List NE, rs.length = xs.length ∧ ∀ j x, rs[j]? = some x → x.1.1 = xs.length - 1 - j ∧ xs[xs.length - 1 - j]? = some x.1.2 := by
  refine ⟨List.ofFn fun j : Fin xs.length => ⟨(xs.length - 1 - j.1, xs[xs.length - 1 - j.1]), by have := j.2; exact ⟨by show xs.length - 1 - j.1 < 8; omega, trivial⟩⟩, by simp, fun j x hx => ?_⟩
  rw [List.getElem?_ofFn] at hx
  split at hx
  · rename_i hj
    simp only [Option.some.injEq] at hx
    subst hx
    exact ⟨rfl, List.getElem?_eq_getElem _⟩
  · cases hx

theorem edits_take {w : World} {a : Option Addr} {zs : List E} (h : EditsAt w a zs) (i : Nat) : EditsAt w a (zs.take i) := by
  rcases h with h | ⟨b, off, e, hlt, hc⟩
  · subst h; left; simp
  · refine .inr ⟨b, off, e, hlt, fun j l hj => hc j l ?_⟩
    rw [List.getElem?_take] at hj
    split at hj
    · exact hj
    · cases hj
theorem edits_drop {w : World} {g : Nat} {zs : List E} (h : EditsAt w (some ⟨g, 0, none⟩) zs) (i : Nat) : EditsAt w (some ⟨g, i * 5, none⟩) (zs.drop i) := by
  rcases h with h | ⟨b, off, e, hlt, hc⟩
  · subst h; left; simp
  · injection e with e
    injection e with e1 e2 e3
    subst e1
    subst e2
    refine .inr ⟨_, _, rfl, hlt, fun j l hj => ?_⟩
    rw [List.getElem?_drop] at hj
    have h9 := hc _ _ hj
    rw [Nat.zero_add, show (i + j) * 5 = i * 5 + j * 5 from Nat.add_mul i j 5] at h9
    exact h9
theorem own_apartK {w : World} {base size n c K : Nat} {e : TypeId} {ad : Option Addr} {xs : List Value} (h : w.ownsRow base e size (.slice ad n c) n xs) (hK : K < base) : ∀ b o p, ad = some ⟨b, o, p⟩ → b ≠ K := by
  intro b o p ea
  rcases h.2 with ⟨he, _⟩ | ⟨gg, cap, cur, he, hb, _⟩
  · injection he with h1
    rw [ea] at h1; cases h1
  · injection he with h1
    rw [ea] at h1
    injection h1 with h1
    injection h1 with h1
    omega

set_option maxRecDepth 100000 in
set_option maxHeartbeats 20000000 in
theorem pReduce_any (a g h : Option Addr) (ca cg ch : Nat) (ps : List L) (xs : List E) (ts : List T) (w : World) (hp : LinesAt w a ps) (hx : EditsAt w g xs) (hts : TestsAt w h ts) (hm : xs.length ≤ 1000) (hm2 : ts.length ≤ 1000) (hml : ∀ t ∈ ts, t.inn.length ≤ 1000) (hpl : ps.length ≤ 1000) :
    Calls Tryz.prog 9 #[.slice a ps.length ca, .slice g xs.length cg, .slice h ts.length ch] w (GivesEditsE (rdR ps xs ts) (rdC ps xs ts) w) := by
  have HV := Lib.hid (fun w h1 h2 h3 => pvalidate_any a g h ca cg ch ps xs ts w h1 h2 h3 hm hm2 hml hpl)
  have HP := Lib.hid hp
  have HX := Lib.hid hx
  have HT := Lib.hid hts
  clear hp hts hml
  by_cases hz : vpx ps xs (vts ts) = 0
  · have hok := okX_of hz
    have HG := Lib.hid (fun b c z w h1 h2 h3 (hz' : z.Sublist xs) => pisGood_any a b h ca c ch ps z ts w h1 h2 h3 (hok.sub hz') (vpx_ok hz).2.2.1)
    have h8 := hok.len
    have HC := Lib.hid (fun w h1 => cloneEdits_any g cg xs w h1 hm)
    have HE := Lib.hid (show rdC ps xs ts = if gdB ps ts xs then 0 else 6 by unfold rdC; rw [if_pos hz])
    have HR := Lib.hid (show rdC ps xs ts = 0 → rdR ps xs ts = rdTo (gdB ps ts) xs xs.length from fun h => by unfold rdR; rw [if_pos h]; rfl)
    have HR0 := Lib.hid (show rdC ps xs ts ≠ 0 → rdR ps xs ts = [] from fun h => by unfold rdR; rw [if_neg h])
    rw [hz] at HV
    clear hz hok hx hm hm2 hpl
    generalize rdC ps xs ts = C at HE HR HR0 ⊢
    generalize rdR ps xs ts = R at HR HR0 ⊢
    generalize gdB ps ts = gd at HG HE HR
    by_cases hgd : gd xs = true
    · have hC : C = 0 := by rw [HE.out, hgd]; rfl
      subst hC
      have hRR := HR.out rfl
      subst hRR
      clear HE HR HR0
      refine (callsIn_wide (n := 5)).1 ?_
      refine callsIn_of_wp_marks Tryz.func9 rfl trivial ?_ rfl
      simp only [Tryz.ntmps9, List.size_toArray, List.length_cons, List.length_nil, Nat.reduceAdd, Nat.reduceSub, Array.replicate_succ, Array.replicate_zero, List.push_toArray, List.append_toArray, List.nil_append, List.cons_append]
      gi_wp2_with fail
      refine ⟨trivial, ?_⟩
      gi_at_call 42
      have hb0 := ((Below.refl w.heap.size w).alloc (Nat.le_refl _) (.cells #[.slice a ps.length ca] 22 (0, 0))).alloc (by simp) (.cells #[.slice h ts.length ch] 24 (0, 0))
      refine (callsIn_wide.2 (HV.out _ (HP.out.below hb0 (Nat.le_refl _)) (HX.out.below hb0 (Nat.le_refl _)) (HT.out.below hb0 (Nat.le_refl _)))).mono ?_
      rintro e w1 ⟨rfl, hB1⟩
      have HB1 := Lib.hid (hb0.trans (hB1.mono hb0.size))
      have HbP := Lib.hid (hp_below (i := w.heap.size) (hp_alloc (hp_new (w := w) (o := .cells #[.slice a ps.length ca] 22 (0, 0)) rfl)) hB1 (by simp only [World.size_alloc]; omega))
      have HbT := Lib.hid (hp_below (hp_new (w := w.alloc (.cells #[.slice a ps.length ca] 22 (0, 0))) (o := .cells #[.slice h ts.length ch] 24 (0, 0)) rfl) hB1 (by simp only [World.size_alloc]; omega))
      have hs1 := hB1.size
      simp only [World.size_alloc] at HbT hs1
      generalize hPP : w.heap.size = P0 at *
      have l1 := hp_cell HbP.out (j := 0) (by rfl)
      have l2 := hp_cell HbT.out (j := 0) (by rfl)
      clear hb0 hB1
      gi_wp2_with fail
      refine ⟨trivial, ?_⟩
      gi_at_call 43
      refine (callsIn_wide.2 (HG.out _ _ _ _ (HP.out.below HB1.out (by omega)) (HX.out.below HB1.out (by omega)) (HT.out.below HB1.out (by omega)) (List.Sublist.refl _))).mono ?_
      rintro e w2 ⟨rfl, hB2⟩
      rw [hgd]
      have HB2 := Lib.hid (HB1.out.trans (hB2.mono (by omega)))
      replace HbP := Lib.hid (hp_below HbP.out hB2 (hp_lt HbP.out))
      replace HbT := Lib.hid (hp_below HbT.out hB2 (hp_lt HbT.out))
      replace l1 := hp_cell HbP.out (j := 0) (by rfl)
      replace l2 := hp_cell HbT.out (j := 0) (by rfl)
      have hs2 := hB2.size
      clear hB2
      gi_wp2_with fail
      refine ⟨trivial, ?_⟩
      gi_at_call 44
      refine (callsIn_wide.2 (HC.out _ (HX.out.below HB2.out (by omega)))).mono ?_
      rintro e w3 hG3
      obtain ⟨ad, c, rfl, ho3, hB3⟩ := hG3
      have hlo : P0 ≤ w2.heap.size := by omega
      have HO3 := Lib.hid (own_mono ho3 hlo)
      have HB3 := Lib.hid (HB2.out.trans (hB3.mono hlo))
      have HbP3 := Lib.hid (hp_below HbP.out hB3 (hp_lt HbP.out))
      have HbT3 := Lib.hid (hp_below HbT.out hB3 (hp_lt HbT.out))
      have hs3 := hB3.size
      clear hB3 ho3 l1 l2 HbP HbT
      gi_wp2_with fail
      refine ⟨trivial, ?_⟩
      gi_at_call 45
      refine (callsIn_wide.2 (backwardE_any _ _ _ _)).mono ?_
      rintro e w4 ⟨rfl, hw4⟩
      have hI0 : RdI a ca ps.length h ch ts.length P0 w3.heap.size (P0 + 1) (w3.heap.size + 1) (.slice g xs.length cg) w xs w4 := by
        rw [← hw4]
        refine ⟨hp_alloc (hp_alloc HbP3.out), hp_alloc (hp_alloc HbT3.out), hp_new (by simp), ⟨ad, c, hp_alloc (hp_new rfl), ?_, ?_⟩, ?_⟩
        · rw [hPP]; exact own_below HO3.out (((Below.refl _ _).alloc (Nat.le_refl _) _).alloc (by simp) _) (Nat.le_refl _)
        · intro b o p e hb
          rcases HO3.out.2 with ⟨he, _⟩ | ⟨gg, cap, cur, he, _, hgg, _⟩
          · injection he with h1
            rw [e] at h1; cases h1
          · injection he with h1
            rw [e] at h1
            injection h1 with h1
            injection h1 with h1
            have h9 := hp_lt hgg
            omega
        · rw [hPP]; exact (HB3.out.alloc (by omega) _).alloc (by simp only [World.size_alloc]; omega) _
      have hsz : w4.heap.size = w3.heap.size + 2 := by rw [← hw4]; simp
      clear hw4 HO3 HB3 HbP3 HbT3 HB1 HB2 HC HV
      simp only [World.size_alloc]
      have hK0 : P0 + 2 ≤ w3.heap.size := by omega
      clear hs1 hs2 hs3 hlo
      generalize w3.heap.size = K0 at *
      obtain ⟨rs, hrs, hrs3⟩ := back_edits xs (by omega)
      have hxa : ∃ pb off, (0 < xs.length → g = some ⟨pb, off, none⟩ ∧ pb < P0) ∧ BackAtE w4 pb off xs.length rs := by
        rcases HX.out with rfl | ⟨pb, off, q1, q2, q3⟩
        · exact ⟨0, 0, fun h => by simp at h, hrs, fun j x hx => by have := (List.getElem?_eq_some_iff.1 hx).1; rw [hrs] at this; simp at this⟩
        · refine ⟨pb, off, fun _ => ⟨q1, by omega⟩, hrs, fun j x hx => ?_⟩
          obtain ⟨e1, e2⟩ := hrs3 j x hx
          obtain ⟨c0, c1, c2, c3, c4⟩ := q3 _ _ e2
          have hbb := hI0.below
          have up : ∀ n, w4.cell? ⟨pb, n, none⟩ = w.cell? ⟨pb, n, none⟩ := fun n => hbb.cell (p := ⟨pb, n, none⟩) q2
          refine ⟨e1, ?_⟩
          rw [up, up, up, up, up]
          exact ⟨c0, c1, c2, c3, c4⟩
      obtain ⟨pb, off, hx1, hx2⟩ := hxa
      have HSEQ := Lib.hid (backE_all 4 (by omega) (K0 + 1) P0 pb off xs.length cg g rs w4 (by omega) hx1 (by omega) (by omega) (hp_cell hI0.bB (by rfl)) hx2)
      have HRS := Lib.hid hrs3
      have HLR := Lib.hid hrs
      have HI0 := Lib.hid hI0
      clear hx1 hx2 hrs hrs3 hI0
      have hP0 : w.heap.size ≤ w4.heap.size := by omega
      gi_wp2_with fail
      refine rangeFunc_all (G := GoesBack rs) rfl (by omega) (gf := 95) (lb := #[.pointer (some ⟨K0 + 1, 0, none⟩)]) rfl trivial (enters_of Tryz.func95 (by kernel_rfl) rfl) HSEQ.out ?kt ?kb (Below.refl _ _) (fun _ => rfl)
        (fun pre W => RdI a ca ps.length h ch ts.length P0 K0 (P0 + 1) (K0 + 1) (.slice g xs.length cg) w (rdTo gd xs pre.length) W)
        (rdI_own _ _ _ _ _ _ _ _ _ _ _ _ (fun pre : List NE => rdTo gd xs pre.length) _ hP0)
        HI0.out
        (fun x b _ => b = { tmps := #[.slice a ps.length ca, .slice g xs.length cg, .slice h ts.length ch, .pointer (some ⟨P0, 0, none⟩), undef, .pointer (some ⟨P0 + 1, 0, none⟩), .slice none 0 0, .int .i64 0, .int .i64 0, .pointer (some ⟨K0, 0, none⟩), .int .i64 (x.1.1 : Int), undef, .slice a ps.length ca, .slice g xs.length cg, .slice h ts.length ch, .int .i64 0, .int .i64 0, .bool false, undef, .slice a ps.length ca, .slice g xs.length cg, .slice h ts.length ch, .bool true, .bool false, .slice g xs.length cg, .slice ad xs.length c, .slice g xs.length cg, .func (.func 95) #[] #[.pointer (some ⟨K0 + 1, 0, none⟩)], .int .i64 (x.1.1 : Int), .agg #[.int .i64 x.1.2.at_, .int .i64 x.1.2.ln.op, .int .i64 x.1.2.ln.to, .int .i64 x.1.2.ln.a, .int .i64 x.1.2.ln.b], undef, undef, undef, undef, undef, undef, undef, undef, undef, undef, undef, undef, undef, undef, undef], defers := [] }) (fun x b => ownFrom_pure _ _)
        ?assign ?body ?done
      case kt => exact fun h k => ⟨h.1.trans k.1, k.2.trans h.2⟩
      case kb =>
        intro W l o o' h1 h2 h3 h4
        refine ⟨belowK_b (w := w4) (by omega) W l o o' h1 h2 h3 h4, ?_⟩
        have hl := hp_lt h2
        exact (grownBy_putObj' W l o').block (K0 + 1) (by omega) (by intro e; cases e; omega)
      case assign =>
        intro l pre x W K hI hK
        unfold encNE
        gi_wp2
        exact hK _ _ ((KeepsOthers.refl _).from _) ⟨Below.refl _ _, rfl⟩ hI rfl
      case body =>
        rintro l pre x b W hl ⟨j, hj1, hj2⟩ hI rfl
        have hj : j < rs.length := (List.getElem?_eq_some_iff.1 hj2).1
        have hpj : pre.length = j := by rw [hj1, List.length_take]; omega
        obtain ⟨e1, e2⟩ := HRS.out j x hj2
        rw [hpj] at hI
        have hz1 := rdTo_len gd xs j (by have := HLR.out; omega)
        have hz2 := (rdTo_sub gd xs j).length_le
        have HSub := Lib.hid (rdTo_sub gd xs j)
        have HNx := Lib.hid (show ∀ n, n = (pre ++ [x]).length → rdTo gd xs n = rdS gd (rdTo gd xs j) (xs.length - (j + 1)) from fun n hn => by rw [hn, List.length_append, hpj]; rfl)
        have hxi : x.1.1 + 1 = xs.length - j := by have := HLR.out; omega
        have hxj : xs.length - (j + 1) = x.1.1 := by omega
        rw [hxj] at HNx
        obtain ⟨⟨xi, xl⟩, hx8, hxv⟩ := x
        simp only at hx8 hxi ⊢
        clear hj hj1 hj2 hpj e1 e2 hxj
        generalize rdTo gd xs j = zs at *
        obtain ⟨kd, kc, k1, k2, k3⟩ := hI.bK
        have m1 := hp_cell k1 (j := 0) (by rfl)
        have hil : xi + 1 ≤ zs.length := by omega
        have hzl : zs.length ≤ 4 := by omega
        have HK := Lib.hid k2
        have HK3 := Lib.hid k3
        have HI := Lib.hid hI
        clear k1 k2 k3 hI
        have HPost : Hid (∀ W' us', KeepsOthers W W' → RdI a ca ps.length h ch ts.length P0 K0 (P0 + 1) (K0 + 1) (.slice g xs.length cg) w us' W' → us' = rdS gd zs xi → Below P0 W W' →
            (KeepsFrom (K0 + 2) W W' ∧ KpB P0 (K0 + 1) W W' ∧ RdI a ca ps.length h ch ts.length P0 K0 (P0 + 1) (K0 + 1) (.slice g xs.length cg) w (rdTo gd xs (pre.length + 1)) W')) := by
          refine Lib.hid fun W' us' hk hi hu hb => ⟨hk.from _, ⟨hb, hi.bB.trans HI.out.bB.symm⟩, ?_⟩
          rw [HNx.out (pre.length + 1) (by rw [List.length_append]; rfl), ← hu]
          exact hi
        clear HNx
        obtain ⟨gg, rfl⟩ := own_form HK.out (by omega)
        have hcap := own_cap HK.out
        have hKl := hp_lt HI.out.bB
        have hKl : K0 < W.heap.size := by omega
        have HB0 := Lib.hid (show Below W.heap.size W W.drew from ⟨rfl, rfl, rfl, Nat.le_refl _, fun _ _ => rfl⟩)
        have q0 : (0 : Int) ≤ (xi : Int) := by omega
        have hwj : IntKind.i64.wrap ((xi : Int) + 1) = (xi : Int) + 1 := IntWalk.i64_in _ (by omega)
        have HXI := Lib.hid hxi
        have HEZ := Lib.hid (edits_of_own HK.out).1
        have HU1 := Lib.hid (show (zs.take xi).length = xi by rw [List.length_take]; omega)
        have HU2 := Lib.hid (show (zs.drop (xi + 1)).length = zs.length - (xi + 1) by rw [List.length_drop])
        have HSS := Lib.hid (rd_sub1 HSub.out xi)
        have HRS := Lib.hid (show rdS gd zs xi = if gd (zs.take xi ++ zs.drop (xi + 1)) then zs.take xi ++ zs.drop (xi + 1) else zs from rfl)
        have HE1 := Lib.hid (edits_take HEZ.out xi)
        have HE2 := Lib.hid (edits_drop HEZ.out (xi + 1))
        have HE3 : Hid (zs.length ≤ xi + 1 → zs.drop (xi + 1) = []) := Lib.hid (fun h => List.drop_of_length_le h)
        generalize zs.take xi = u1 at *
        generalize zs.drop (xi + 1) = u2 at *
        generalize rdS gd zs xi = zn at *
        clear hxi
        gi_wp2_with fail
        rename_i Qb Kb hKb
        by_cases hcj : kc = xi + 1
        · subst hcj
          refine region_round (S := (fun W2 => Below W.heap.size W W2)) (by kernel_rfl) (by kernel_rfl) (by rintro ⟨_, _, h, _⟩; cases h) ?_ (fun hHeld => ?_)
          · exact HB0.out
          generalize W.drew = Wd at *
          refine wpAnyH_take (i := 0) (oi := ?oiq7) (v := ?vq7) ?hiq7 (by kernel_rfl) (by kernel_rfl) (by kernel_rfl) ?hqq7 ?hyq7 hHeld ?restq7
          case hiq7 => exact rfl
          case hqq7 => exact fun _ _ _ h => h
          case hyq7 =>
            refine Or.inl ⟨by rfl, ?_⟩
            intro w hSw
            have m2 := (hSw.cell (p := ⟨K0, 0, none⟩) hKl).trans m1
            go_simp
            (try with_reducible rfl)
          try simp only [Act.put, List.getElem_toArray, List.getElem_cons_succ, List.getElem_cons_zero, List.setIfInBounds_toArray, List.set_cons_zero, List.set_cons_succ]
          refine wpAnyH_take (i := 1) (oi := ?oiq8) (v := ?vq8) ?hiq8 (by kernel_rfl) (by kernel_rfl) (by kernel_rfl) ?hqq8 ?hyq8 hHeld ?restq8
          case hiq8 => exact rfl
          case hqq8 => exact fun _ _ _ h => h
          case hyq8 =>
            refine Or.inl ⟨by rfl, ?_⟩
            intro w hSw
            go_simp
            (try with_reducible rfl)
          try simp only [Act.put, List.getElem_toArray, List.getElem_cons_succ, List.getElem_cons_zero, List.setIfInBounds_toArray, List.set_cons_zero, List.set_cons_succ]
          refine wpAnyH_take (i := 2) (oi := ?oiq9) (v := (.slice (some ⟨gg, 0, none⟩) xi (xi + 1))) ?hiq9 (by kernel_rfl) (by kernel_rfl) (by kernel_rfl) ?hqq9 ?hyq9 hHeld ?restq9
          case hiq9 => exact rfl
          case hqq9 => exact fun _ _ _ h => h
          case hyq9 =>
            refine Or.inl ⟨by rfl, ?_⟩
            intro w hSw
            go_simp
            (try rw [if_pos (by omega)])
            (try (intro h9; omega))
            (try rfl)
            (try with_reducible rfl)
          try simp only [Act.put, List.getElem_toArray, List.getElem_cons_succ, List.getElem_cons_zero, List.setIfInBounds_toArray, List.set_cons_zero, List.set_cons_succ]
          refine wpAnyH_take (i := 3) (oi := ?oiq10) (v := ?vq10) ?hiq10 (by kernel_rfl) (by kernel_rfl) (by kernel_rfl) ?hqq10 ?hyq10 hHeld ?restq10
          case hiq10 => exact rfl
          case hqq10 => exact fun _ _ _ h => h
          case hyq10 =>
            refine Or.inl ⟨by rfl, ?_⟩
            intro w hSw
            have m2 := (hSw.cell (p := ⟨K0, 0, none⟩) hKl).trans m1
            go_simp
            (try with_reducible rfl)
          try simp only [Act.put, List.getElem_toArray, List.getElem_cons_succ, List.getElem_cons_zero, List.setIfInBounds_toArray, List.set_cons_zero, List.set_cons_succ]
          refine wpAnyH_take (i := 4) (oi := ?oiq11) (v := ?vq11) ?hiq11 (by kernel_rfl) (by kernel_rfl) (by kernel_rfl) ?hqq11 ?hyq11 hHeld ?restq11
          case hiq11 => exact rfl
          case hqq11 => exact fun _ _ _ h => h
          case hyq11 =>
            refine Or.inl ⟨by rfl, ?_⟩
            intro w hSw
            go_simp
            (try with_reducible rfl)
          try simp only [Act.put, List.getElem_toArray, List.getElem_cons_succ, List.getElem_cons_zero, List.setIfInBounds_toArray, List.set_cons_zero, List.set_cons_succ]
          refine wpAnyH_take (i := 5) (oi := ?oiq12) (v := (.int .i64 ((xi : Int) + 1))) ?hiq12 (by kernel_rfl) (by kernel_rfl) (by kernel_rfl) ?hqq12 ?hyq12 hHeld ?restq12
          case hiq12 => exact rfl
          case hqq12 => exact fun _ _ _ h => h
          case hyq12 =>
            refine Or.inl ⟨by rfl, ?_⟩
            intro w hSw
            go_simp
            (try rw [hwj])
            (try rfl)
            (try with_reducible rfl)
          try simp only [Act.put, List.getElem_toArray, List.getElem_cons_succ, List.getElem_cons_zero, List.setIfInBounds_toArray, List.set_cons_zero, List.set_cons_succ]
          refine wpAnyH_take (i := 6) (oi := ?oiq13) (v := (.slice (some ⟨gg, 0, none⟩) 0 0)) ?hiq13 (by kernel_rfl) (by kernel_rfl) (by kernel_rfl) ?hqq13 ?hyq13 hHeld ?restq13
          case hiq13 => exact rfl
          case hqq13 => exact fun _ _ _ h => h
          case hyq13 =>
            refine Or.inl ⟨by rfl, ?_⟩
            intro w hSw
            go_simp
            (try rw [if_pos (by omega)])
            (try simp [])
            (try rfl)
            (try omega)
            (try with_reducible rfl)
          try simp only [Act.put, List.getElem_toArray, List.getElem_cons_succ, List.getElem_cons_zero, List.setIfInBounds_toArray, List.set_cons_zero, List.set_cons_succ]
          refine wpAnyH_ready (rs := [7]) (by kernel_rfl) (by simp) ?_
          refine AllReadyH.cons (o := ?or3_7) ?hr3_7 ?kr3_7 AllReadyH.nil
          case hr3_7 => exact rfl
          case kr3_7 =>
            intro K hK
            go_simp
            have HB1 := Lib.hid (HB0.out.alloc HB0.out.size (.cells #[.slice (some ⟨gg, 0, none⟩) xi (xi + 1), (.slice (some ⟨gg, 0, none⟩) 0 0)] 23))
            refine hK.out _ _ HB1.out (fun hHeld => ?_)
            clear hK K
            try simp only [Act.put, List.getElem_toArray, List.getElem_cons_succ, List.getElem_cons_zero, List.setIfInBounds_toArray, List.set_cons_zero, List.set_cons_succ]
            refine wpAnyH_ready (rs := [8]) (by kernel_rfl) (by simp) ?_
            refine AllReadyH.cons (o := ?or2_8) ?hr2_8 ?kr2_8 AllReadyH.nil
            case hr2_8 => exact rfl
            case kr2_8 =>
              intro K hK
              go_simp
              refine (concatE_any Wd.heap.size (some ⟨gg, 0, none⟩) (some ⟨gg, 0, none⟩) (xi + 1) 0 u1 u2 23 _ (by rw [HU1.out, (show u2.length = 0 by rw [HU2.out]; omega)]; exact hp_new rfl) (HE1.out.below HB1.out (Nat.le_refl _)) (by intro h; cases h) (.inl (HE3.out (by omega))) (by intro h; cases h) (by rw [HU1.out, HU2.out]; omega)).mono ?_
              rintro e W2 ⟨ad2, c2, rfl, ho2, hB2⟩
              have HB2 := Lib.hid (HB1.out.trans (hB2.mono HB1.out.size))
              have HO2 := Lib.hid (own_mono ho2 HB1.out.size)
              clear ho2 hB2
              generalize hus : u1 ++ u2 = us at *
              refine hK.out _ _ HB2.out (fun hHeld => ?_)
              clear hK K
              try simp only [Act.put, List.getElem_toArray, List.getElem_cons_succ, List.getElem_cons_zero, List.setIfInBounds_toArray, List.set_cons_zero, List.set_cons_succ]
              refine wpAnyH_take (i := 9) (oi := ?oiq1) (v := ?vq1) ?hiq1 (by kernel_rfl) (by kernel_rfl) (by kernel_rfl) ?hqq1 ?hyq1 hHeld ?restq1
              case hiq1 => exact rfl
              case hqq1 => exact fun _ _ _ h => h
              case hyq1 =>
                refine Or.inl ⟨by rfl, ?_⟩
                intro w hSw
                go_simp
                (try with_reducible rfl)
              try simp only [Act.put, List.getElem_toArray, List.getElem_cons_succ, List.getElem_cons_zero, List.setIfInBounds_toArray, List.set_cons_zero, List.set_cons_succ]
              refine wpAnyH_done (by kernel_rfl) ?_ _
              clear hHeld
              have HI2 := Lib.hid (HI.out.lower HB2.out)
              have n1 := hp_cell HI2.out.bP (j := 0) (by rfl)
              have n2 := hp_cell HI2.out.bT (j := 0) (by rfl)
              have HER := Lib.hid (edits_of_own HO2.out).1
              have HBW := Lib.hid HI2.out.below
              clear m1
              refine hKb _ _ ?_
              gi_wp2_with fail
              refine ⟨trivial, ?_⟩
              gi_at_call 43
              refine (CallsIn.inRound l (callsIn_wide.2 (HG.out _ _ _ _ (HP.out.below HBW.out (Nat.le_refl _)) HER.out (HT.out.below HBW.out (Nat.le_refl _)) HSS.out))).mono ?_
              rintro e W3 ⟨rfl, hB3⟩
              have HB3 := Lib.hid (HB2.out.trans (hB3.mono HB2.out.size))
              have HI3 := Lib.hid (HI2.out.lower hB3)
              have HO3 := Lib.hid (own_below HO2.out hB3 (Nat.le_refl _))
              clear hB3 n1 n2
              cases hgu : gd us
              · rw [hgu] at HRS
                have HZ := Lib.hid (show zn = zs from HRS.out)
                clear HRS hgu
                gi_wp2_with fail
                exact HPost.out _ _ (keeps_below HB3.out) HI3.out HZ.out.symm (HB3.out.mono (by omega))
              · rw [hgu] at HRS
                have HZ := Lib.hid (show zn = us from HRS.out)
                clear HRS hgu
                have f1 := hp_cell HI3.out.bK.choose_spec.choose_spec.1 (j := 0) (by rfl)
                have f2 := hp_free HI3.out.bK.choose_spec.choose_spec.1 0
                gi_wp2_with fail
                exact HPost.out _ _ ((keeps_below HB3.out).trans (KeepsOthers.setCell _ _ _)) (HI3.out.put (by omega) ⟨by omega, by omega, by omega⟩ us _ _ (own_mono HO3.out (by omega)) (own_apartK HO3.out (by omega))) HZ.out.symm ((HB3.out.mono (by omega)).setCell (p := ⟨K0, 0, none⟩) (by show _ ≤ K0; omega) _)
        · refine region_round (S := (fun W2 => Below W.heap.size W W2)) (by kernel_rfl) (by kernel_rfl) (by rintro ⟨_, _, h, _⟩; cases h) ?_ (fun hHeld => ?_)
          · exact HB0.out
          generalize W.drew = Wd at *
          refine wpAnyH_take (i := 0) (oi := ?oiq14) (v := ?vq14) ?hiq14 (by kernel_rfl) (by kernel_rfl) (by kernel_rfl) ?hqq14 ?hyq14 hHeld ?restq14
          case hiq14 => exact rfl
          case hqq14 => exact fun _ _ _ h => h
          case hyq14 =>
            refine Or.inl ⟨by rfl, ?_⟩
            intro w hSw
            have m2 := (hSw.cell (p := ⟨K0, 0, none⟩) hKl).trans m1
            go_simp
            (try with_reducible rfl)
          try simp only [Act.put, List.getElem_toArray, List.getElem_cons_succ, List.getElem_cons_zero, List.setIfInBounds_toArray, List.set_cons_zero, List.set_cons_succ]
          refine wpAnyH_take (i := 1) (oi := ?oiq15) (v := ?vq15) ?hiq15 (by kernel_rfl) (by kernel_rfl) (by kernel_rfl) ?hqq15 ?hyq15 hHeld ?restq15
          case hiq15 => exact rfl
          case hqq15 => exact fun _ _ _ h => h
          case hyq15 =>
            refine Or.inl ⟨by rfl, ?_⟩
            intro w hSw
            go_simp
            (try with_reducible rfl)
          try simp only [Act.put, List.getElem_toArray, List.getElem_cons_succ, List.getElem_cons_zero, List.setIfInBounds_toArray, List.set_cons_zero, List.set_cons_succ]
          refine wpAnyH_take (i := 2) (oi := ?oiq16) (v := (.slice (some ⟨gg, 0, none⟩) xi kc)) ?hiq16 (by kernel_rfl) (by kernel_rfl) (by kernel_rfl) ?hqq16 ?hyq16 hHeld ?restq16
          case hiq16 => exact rfl
          case hqq16 => exact fun _ _ _ h => h
          case hyq16 =>
            refine Or.inl ⟨by rfl, ?_⟩
            intro w hSw
            go_simp
            (try rw [if_pos (by omega)])
            (try (intro h9; omega))
            (try rfl)
            (try with_reducible rfl)
          try simp only [Act.put, List.getElem_toArray, List.getElem_cons_succ, List.getElem_cons_zero, List.setIfInBounds_toArray, List.set_cons_zero, List.set_cons_succ]
          refine wpAnyH_take (i := 3) (oi := ?oiq17) (v := ?vq17) ?hiq17 (by kernel_rfl) (by kernel_rfl) (by kernel_rfl) ?hqq17 ?hyq17 hHeld ?restq17
          case hiq17 => exact rfl
          case hqq17 => exact fun _ _ _ h => h
          case hyq17 =>
            refine Or.inl ⟨by rfl, ?_⟩
            intro w hSw
            have m2 := (hSw.cell (p := ⟨K0, 0, none⟩) hKl).trans m1
            go_simp
            (try with_reducible rfl)
          try simp only [Act.put, List.getElem_toArray, List.getElem_cons_succ, List.getElem_cons_zero, List.setIfInBounds_toArray, List.set_cons_zero, List.set_cons_succ]
          refine wpAnyH_take (i := 4) (oi := ?oiq18) (v := ?vq18) ?hiq18 (by kernel_rfl) (by kernel_rfl) (by kernel_rfl) ?hqq18 ?hyq18 hHeld ?restq18
          case hiq18 => exact rfl
          case hqq18 => exact fun _ _ _ h => h
          case hyq18 =>
            refine Or.inl ⟨by rfl, ?_⟩
            intro w hSw
            go_simp
            (try with_reducible rfl)
          try simp only [Act.put, List.getElem_toArray, List.getElem_cons_succ, List.getElem_cons_zero, List.setIfInBounds_toArray, List.set_cons_zero, List.set_cons_succ]
          refine wpAnyH_take (i := 5) (oi := ?oiq19) (v := (.int .i64 ((xi : Int) + 1))) ?hiq19 (by kernel_rfl) (by kernel_rfl) (by kernel_rfl) ?hqq19 ?hyq19 hHeld ?restq19
          case hiq19 => exact rfl
          case hqq19 => exact fun _ _ _ h => h
          case hyq19 =>
            refine Or.inl ⟨by rfl, ?_⟩
            intro w hSw
            go_simp
            (try rw [hwj])
            (try rfl)
            (try with_reducible rfl)
          try simp only [Act.put, List.getElem_toArray, List.getElem_cons_succ, List.getElem_cons_zero, List.setIfInBounds_toArray, List.set_cons_zero, List.set_cons_succ]
          refine wpAnyH_take (i := 6) (oi := ?oiq20) (v := (.slice (some ⟨gg, (xi + 1) * 5, none⟩) (zs.length - (xi + 1)) (kc - (xi + 1)))) ?hiq20 (by kernel_rfl) (by kernel_rfl) (by kernel_rfl) ?hqq20 ?hyq20 hHeld ?restq20
          case hiq20 => exact rfl
          case hqq20 => exact fun _ _ _ h => h
          case hyq20 =>
            refine Or.inl ⟨by rfl, ?_⟩
            intro w hSw
            go_simp
            (try rw [if_pos (by omega)])
            (try simp [])
            (try rfl)
            (try omega)
            (try with_reducible rfl)
          try simp only [Act.put, List.getElem_toArray, List.getElem_cons_succ, List.getElem_cons_zero, List.setIfInBounds_toArray, List.set_cons_zero, List.set_cons_succ]
          refine wpAnyH_ready (rs := [7]) (by kernel_rfl) (by simp) ?_
          refine AllReadyH.cons (o := ?or6_7) ?hr6_7 ?kr6_7 AllReadyH.nil
          case hr6_7 => exact rfl
          case kr6_7 =>
            intro K hK
            go_simp
            have HB1 := Lib.hid (HB0.out.alloc HB0.out.size (.cells #[.slice (some ⟨gg, 0, none⟩) xi kc, (.slice (some ⟨gg, (xi + 1) * 5, none⟩) (zs.length - (xi + 1)) (kc - (xi + 1)))] 23))
            refine hK.out _ _ HB1.out (fun hHeld => ?_)
            clear hK K
            try simp only [Act.put, List.getElem_toArray, List.getElem_cons_succ, List.getElem_cons_zero, List.setIfInBounds_toArray, List.set_cons_zero, List.set_cons_succ]
            refine wpAnyH_ready (rs := [8]) (by kernel_rfl) (by simp) ?_
            refine AllReadyH.cons (o := ?or5_8) ?hr5_8 ?kr5_8 AllReadyH.nil
            case hr5_8 => exact rfl
            case kr5_8 =>
              intro K hK
              go_simp
              refine (concatE_any Wd.heap.size (some ⟨gg, 0, none⟩) (some ⟨gg, (xi + 1) * 5, none⟩) kc (kc - (xi + 1)) u1 u2 23 _ (by rw [HU1.out, HU2.out]; exact hp_new rfl) (HE1.out.below HB1.out (Nat.le_refl _)) (by intro h; cases h) (HE2.out.below HB1.out (Nat.le_refl _)) (by intro h; cases h) (by rw [HU1.out, HU2.out]; omega)).mono ?_
              rintro e W2 ⟨ad2, c2, rfl, ho2, hB2⟩
              have HB2 := Lib.hid (HB1.out.trans (hB2.mono HB1.out.size))
              have HO2 := Lib.hid (own_mono ho2 HB1.out.size)
              clear ho2 hB2
              generalize hus : u1 ++ u2 = us at *
              refine hK.out _ _ HB2.out (fun hHeld => ?_)
              clear hK K
              try simp only [Act.put, List.getElem_toArray, List.getElem_cons_succ, List.getElem_cons_zero, List.setIfInBounds_toArray, List.set_cons_zero, List.set_cons_succ]
              refine wpAnyH_take (i := 9) (oi := ?oiq4) (v := ?vq4) ?hiq4 (by kernel_rfl) (by kernel_rfl) (by kernel_rfl) ?hqq4 ?hyq4 hHeld ?restq4
              case hiq4 => exact rfl
              case hqq4 => exact fun _ _ _ h => h
              case hyq4 =>
                refine Or.inl ⟨by rfl, ?_⟩
                intro w hSw
                go_simp
                (try with_reducible rfl)
              try simp only [Act.put, List.getElem_toArray, List.getElem_cons_succ, List.getElem_cons_zero, List.setIfInBounds_toArray, List.set_cons_zero, List.set_cons_succ]
              refine wpAnyH_done (by kernel_rfl) ?_ _
              clear hHeld
              have HI2 := Lib.hid (HI.out.lower HB2.out)
              have n1 := hp_cell HI2.out.bP (j := 0) (by rfl)
              have n2 := hp_cell HI2.out.bT (j := 0) (by rfl)
              have HER := Lib.hid (edits_of_own HO2.out).1
              have HBW := Lib.hid HI2.out.below
              clear m1
              refine hKb _ _ ?_
              gi_wp2_with fail
              refine ⟨trivial, ?_⟩
              gi_at_call 43
              refine (CallsIn.inRound l (callsIn_wide.2 (HG.out _ _ _ _ (HP.out.below HBW.out (Nat.le_refl _)) HER.out (HT.out.below HBW.out (Nat.le_refl _)) HSS.out))).mono ?_
              rintro e W3 ⟨rfl, hB3⟩
              have HB3 := Lib.hid (HB2.out.trans (hB3.mono HB2.out.size))
              have HI3 := Lib.hid (HI2.out.lower hB3)
              have HO3 := Lib.hid (own_below HO2.out hB3 (Nat.le_refl _))
              clear hB3 n1 n2
              cases hgu : gd us
              · rw [hgu] at HRS
                have HZ := Lib.hid (show zn = zs from HRS.out)
                clear HRS hgu
                gi_wp2_with fail
                exact HPost.out _ _ (keeps_below HB3.out) HI3.out HZ.out.symm (HB3.out.mono (by omega))
              · rw [hgu] at HRS
                have HZ := Lib.hid (show zn = us from HRS.out)
                clear HRS hgu
                have f1 := hp_cell HI3.out.bK.choose_spec.choose_spec.1 (j := 0) (by rfl)
                have f2 := hp_free HI3.out.bK.choose_spec.choose_spec.1 0
                gi_wp2_with fail
                exact HPost.out _ _ ((keeps_below HB3.out).trans (KeepsOthers.setCell _ _ _)) (HI3.out.put (by omega) ⟨by omega, by omega, by omega⟩ us _ _ (own_mono HO3.out (by omega)) (own_apartK HO3.out (by omega))) HZ.out.symm ((HB3.out.mono (by omega)).setCell (p := ⟨K0, 0, none⟩) (by show _ ≤ K0; omega) _)
      case done =>
        intro D W hD hI hK
        rw [HLR.out] at hI
        obtain ⟨kd, kc, k1, k2, k3⟩ := hI.bK
        have m1 := hp_cell k1 (j := 0) (by rfl)
        have HO := Lib.hid k2
        clear k1 k2 k3
        gi_wp2_with fail
        refine ⟨by simp, .inl ⟨_, _, rfl, run_takeDeferred hK, ?_⟩⟩
        exact ⟨_, results_tmp2 rfl _ _ _, kd, kc, rfl, ownsRow_putObj HO.out _ hK rfl, hI.below.trans (belowK_b (w := w) (Nat.le_refl _) W D _ _ (by omega) hK rfl rfl)⟩
    · have hgf : gd xs = false := by simpa using hgd
      have hC : C = 6 := by rw [HE.out, hgf]; rfl
      have hRR := HR0.out (by rw [hC]; decide)
      subst hC
      subst hRR
      have HG0 := Lib.hid (fun w h1 h2 h3 => HG.out g cg xs w h1 h2 h3 (List.Sublist.refl xs))
      rw [hgf] at HG0
      clear HE HR HR0 hgd hgf HG HC
      go_enter Tryz.func9, Tryz.ntmps9
      go_wp2_with fail
      have hb0 := ((Below.refl w.heap.size w).alloc (Nat.le_refl _) (.cells #[.slice a ps.length ca] 22 (0, 0))).alloc (by simp) (.cells #[.slice h ts.length ch] 24 (0, 0))
      refine (HV.out _ (HP.out.below hb0 (Nat.le_refl _)) (HX.out.below hb0 (Nat.le_refl _)) (HT.out.below hb0 (Nat.le_refl _))).mono ?_
      rintro e w1 ⟨rfl, hB1⟩
      have HB1 := Lib.hid (hb0.trans (hB1.mono hb0.size))
      have HbP := Lib.hid (hp_below (i := w.heap.size) (hp_alloc (hp_new (w := w) (o := .cells #[.slice a ps.length ca] 22 (0, 0)) rfl)) hB1 (by simp only [World.size_alloc]; omega))
      have HbT := Lib.hid (hp_below (hp_new (w := w.alloc (.cells #[.slice a ps.length ca] 22 (0, 0))) (o := .cells #[.slice h ts.length ch] 24 (0, 0)) rfl) hB1 (by simp only [World.size_alloc]; omega))
      simp only [World.size_alloc] at HbT
      have l1 := hp_cell HbP.out (j := 0) (by rfl)
      have l2 := hp_cell HbT.out (j := 0) (by rfl)
      clear hb0 hB1
      go_wp2_with fail
      refine (HG0.out _ (HP.out.below HB1.out (Nat.le_refl _)) (HX.out.below HB1.out (Nat.le_refl _)) (HT.out.below HB1.out (Nat.le_refl _))).mono ?_
      rintro e w2 ⟨rfl, hB2⟩
      have HB2 := Lib.hid (HB1.out.trans (hB2.mono HB1.out.size))
      clear hB2 l1 l2
      go_wp2_with fail
      go_ret2
      exact givesEditsE_nil HB2.out
  · have HE := Lib.hid (show rdC ps xs ts = vpx ps xs (vts ts) ∧ rdR ps xs ts = [] from ⟨by unfold rdC; rw [if_neg hz], by unfold rdR rdC; rw [if_neg hz, if_neg hz]⟩)
    rw [HE.out.1, HE.out.2]
    generalize vpx ps xs (vts ts) = q at HV hz ⊢
    have hz1 : (q != 0) = true := by simpa using hz
    have hz2 : (q == 0) = false := by simpa using hz
    clear hz HE
    go_enter Tryz.func9, Tryz.ntmps9
    go_wp2_with fail
    have hb0 := ((Below.refl w.heap.size w).alloc (Nat.le_refl _) (.cells #[.slice a ps.length ca] 22 (0, 0))).alloc (by simp) (.cells #[.slice h ts.length ch] 24 (0, 0))
    refine (HV.out _ (HP.out.below hb0 (Nat.le_refl _)) (HX.out.below hb0 (Nat.le_refl _)) (HT.out.below hb0 (Nat.le_refl _))).mono ?_
    rintro e w1 ⟨rfl, hB1⟩
    have HB1 := Lib.hid (hb0.trans (hB1.mono hb0.size))
    clear hb0 hB1
    go_wp2_with fail
    go_ret2
    exact givesEditsE_nil HB1.out

end Go.Proofs.YtdcoebeffbkpnaaGreat
