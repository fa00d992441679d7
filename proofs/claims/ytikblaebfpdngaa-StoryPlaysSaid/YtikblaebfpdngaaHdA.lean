/- Validate, first, play, Play, At of the document (tinkerref07): contracts. -/
import Derived.Test.YtikblaebfpdngaaHtL
import Derived.Test.YtikblaebfpdngaaRd4
set_option linter.unusedVariables false
set_option linter.unusedSimpArgs false
namespace Go.Proofs.Ytikblaebfpdngaa
open Go.RowKit Tinker

theorem vrp_plc {ps : List L} {x : List E} (hv : vp ps = 0) (hx : vx x = 0) : vrp ps x = plcC ps x := by rw [vrp_vpx hv]; exact plc_vpx (by rw [hv, hx]; rfl)
theorem vrp_far {ps : List L} {x : List E} (hv : vp ps = 0) (hx : vx x = 0) {k : Nat} {e : E} (he : x[k]? = some e) (hn : ¬ e.at_ < (ps.length : Int)) : vrp ps x = 4 := by
  rw [vrp_plc hv hx]
  unfold plcC
  rw [all_not he (decide_eq_false hn)]
  rfl
theorem vrp_near {ps : List L} {x : List E} (hv : vp ps = 0) (hx : vx x = 0) (ha : x.all (fun e => decide (e.at_ < (ps.length : Int))) = true) : vrp ps x = 0 := by
  rw [vrp_plc hv hx]
  unfold plcC
  rw [ha]
  rfl

set_option maxRecDepth 100000 in
set_option maxHeartbeats 2000000 in
theorem rHval_any (a g : Option Addr) (ca cg : Nat) (ps : List L) (h : List (List E)) (w : World) (hp : LinesAt w a ps) (hh : RowsEAt w g h) (hpl : ps.length ≤ 1000) (hhl : h.length ≤ 1000) (hm : ∀ x ∈ h, x.length ≤ 1000) :
    Calls Try.prog 17 #[.slice a ps.length ca, .slice g h.length cg] w fun e w' => e = .returned (.int .i64 (vst ps h)) ∧ Below w.heap.size w w' := by
  have HV := Lib.hid (fun w h => rValidate_any a ca ps w h)
  by_cases hv : vp ps = 0
  · rw [hv] at HV
    by_cases h8 : 8 < h.length
    · have HR := Lib.hid (vst_2 hv h8)
      rw [HR.out]
      have h8' : (8 : Int) < (h.length : Int) := by omega
      clear hh hv HR
      go_enter Try.func17, Try.ntmps17
      go_wp2_with fail
      refine (HV.out _ hp).mono ?_
      rintro e w1 ⟨rfl, hB⟩
      have HB := Lib.hid hB
      clear hB
      go_wp2_with fail
      go_ret
      exact ⟨rfl, HB.out⟩
    · have h8' : ¬ (8 : Int) < (h.length : Int) := by omega
      have HV3 := Lib.hid (fun k x ha hx hn => vst_3 (k := k) (x := x) hv h8 ha hx hn)
      have HV4 := Lib.hid (fun ha => vst_4 hv h8 ha)
      have HM := Lib.hid hm
      have HH := Lib.hid hh
      have HVP := Lib.hid hv
      generalize vst ps h = r at HV3 HV4 ⊢
      clear hv hm hh
      go_enter Try.func17, Try.ntmps17
      go_wp2_with fail
      refine (HV.out _ hp).mono ?_
      rintro e w1 ⟨rfl, hB⟩
      have HB := Lib.hid hB
      clear hB
      go_wp2_with fail
      go_loopw [6] (fun s6 wr => ∃ k : Nat, k ≤ h.length ∧ s6 = .int .i64 k ∧ (h.take k).all (fun x => vrp ps x == 0) = true ∧ Below w.heap.size w wr) (fun s6 _ => h.length - (intOf s6).toNat)
      case atStart => exact ⟨0, Nat.zero_le _, rfl, by simp, HB.out⟩
      case round =>
        obtain ⟨k, hk, rfl, hall, hB⟩ := hrel
        have HA := Lib.hid hall
        have HBR := Lib.hid hB
        clear hall hB HB
        by_cases hlt : k < h.length
        · obtain ⟨b, off, x, ax, cx, rfl, hlb, hx, c0, hxe⟩ := (HH.out.below HBR.out (Nat.le_refl _)).at_ hlt
          have HX := Lib.hid hx
          have HXE := Lib.hid hxe
          have hxl : x.length ≤ 1000 := HM.out x (mem_of_get hx)
          have HC := Lib.hid (fun W h => rVal4_any ax cx x W h hxl)
          clear hx hxe
          by_cases hz : vx x = 0
          · have HVX := Lib.hid hz
            rw [hz] at HC
            clear hz
            go_wp2_with fail
            refine (HC.out _ HXE.out).mono ?_
            rintro e w3 ⟨rfl, hB3⟩
            have HB3 := Lib.hid (HBR.out.trans (hB3.mono HBR.out.size))
            have HX3 := Lib.hid (HXE.out.below hB3 (Nat.le_refl _))
            replace c0 := (hB3.cell (p := ⟨b, _, none⟩) hlb).trans c0
            clear hB3 HXE
            go_wp2_with fail
            go_loopw [7] (fun s7 wx => ∃ j : Nat, j ≤ x.length ∧ s7 = .int .i64 j ∧ (x.take j).all (fun e => decide (e.at_ < (ps.length : Int))) = true ∧ wx = w3) (fun s7 _ => x.length - (intOf s7).toNat)
            case atStart => exact ⟨0, Nat.zero_le _, rfl, by simp, rfl⟩
            case round =>
              obtain ⟨j, hj, rfl, hall, rfl⟩ := hrel
              have HA2 := Lib.hid hall
              clear hall
              by_cases hlj : j < x.length
              · obtain ⟨b2, o2, e, rfl, hlb2, he, d0, d1, d2, d3, d4⟩ := HX3.out.at_ hlj
                have HE := Lib.hid he
                clear he
                by_cases hn : e.at_ < (ps.length : Int)
                · have HN := Lib.hid (all_snoc (f := fun e : E => decide (e.at_ < (ps.length : Int))) HA2.out HE.out (decide_eq_true hn))
                  go_wp2_with fail
                  go_roundw
                  case rel => exact ⟨j + 1, by omega, by go_num, HN.out, by first | trivial | rfl⟩
                  case measure => simp [intOf]; omega
                · have HR := Lib.hid (HV3.out k x HA.out HX.out (by rw [vrp_far HVP.out HVX.out HE.out hn]; decide))
                  rw [vrp_far HVP.out HVX.out HE.out hn] at HR
                  go_wp2_with fail
                  go_ret
                  exact ⟨ret_int HR.out.symm, HB3.out⟩
              · have HN := Lib.hid (all_snoc (f := fun x => vrp ps x == 0) HA.out HX.out (by simpa using vrp_near HVP.out HVX.out (all_whole HA2.out hlj)))
                go_wp2_with fail
                go_roundw
                case rel => exact ⟨k + 1, by omega, by go_num, HN.out, HB3.out⟩
                case measure => simp [intOf]; omega
          · have HR := Lib.hid (HV3.out k x HA.out HX.out (by rw [vrp_0 hz]; exact hz))
            rw [vrp_0 hz] at HR
            have hz1 : (vx x != 0) = true := by simpa using hz
            clear hz
            generalize vx x = c at HC HR hz1
            go_wp2_with fail
            refine (HC.out _ HXE.out).mono ?_
            rintro e w3 ⟨rfl, hB3⟩
            have HB3 := Lib.hid (HBR.out.trans (hB3.mono HBR.out.size))
            clear hB3
            go_wp2_with fail
            go_ret
            exact ⟨ret_int HR.out.symm, HB3.out⟩
        · have HR := Lib.hid (HV4.out (all_whole HA.out hlt))
          go_wp2_with fail
          go_ret
          exact ⟨ret_int HR.out.symm, HBR.out⟩
  · have HR := Lib.hid (vst_1 (h := h) hv)
    rw [HR.out]
    have hz1 : (vp ps != 0) = true := by simpa using hv
    clear hv hh HR
    generalize vp ps = c at HV hz1 ⊢
    go_enter Try.func17, Try.ntmps17
    go_wp2_with fail
    refine (HV.out _ hp).mono ?_
    rintro e w1 ⟨rfl, hB⟩
    have HB := Lib.hid hB
    clear hB
    go_wp2_with fail
    go_ret
    exact ⟨rfl, HB.out⟩

set_option maxRecDepth 100000 in
set_option maxHeartbeats 1000000 in
theorem rFirst_any (n : Nat) (w : World) (hn : n ≤ 1000) :
    Calls Try.prog 39 #[.int .i64 n] w (GivesInts (ints (List.range n)) w) := by
  obtain ⟨i0, hi, hz0, hz1, hz2⟩ := info_parts info_int
  go_enter Try.func39, Try.ntmps39
  go_wp2_with fail
  go_loopw [3, 4] (fun s3 s4 wr => ∃ k : Nat, k ≤ n ∧ s4 = .int .i64 k ∧ wr.ownsRow w.heap.size 3 1 s3 k ((ints (List.range k)).map (Value.int .i64)) ∧ Below w.heap.size w wr) (fun _ s4 _ => n - (intOf s4).toNat)
  case atStart => exact ⟨0, Nat.zero_le _, rfl, World.ownsRow_nil _ _ _ _, Below.refl _ _⟩
  case round =>
    obtain ⟨k, hk, rfl, hown, hB⟩ := hrel
    have HO := Lib.hid hown
    have HB := Lib.hid hB
    clear hown hB
    by_cases hlt : k < n
    · go_wp2_with (at_builtin; refine wpList_append_own _ rfl (.tmp 10) (.tmp 12) 35 rfl w.heap.size 3 i0 (.int .i64 0) 1 8 Try.underlying35 hi hz0 hz1 hz2 rfl (by decide) _ _ _ rfl (HO.out.alloc _) ⟨wr.heap.size, 0, none⟩ 1 1 [.int .i64 k] rfl rfl ?c1 ?c2 ?c3 ?c4 ?c5 ?_)
      case c1 => exact cell_one_new _ _ _
      case c2 => simp [Value.oneCell']
      case c3 => unfold maxLen; omega
      case c4 => omega
      case c5 => have := HB.out.size; simp; omega
      intro v' w1 hown' hgrow _
      have hB1 : Below w.heap.size w w1 := (HB.out.alloc HB.out.size _).grown hgrow (by have := HB.out.size; simp; omega) (own_base HO.out)
      have e : (ints (List.range k)).map (Value.int .i64) ++ [.int .i64 k] = (ints (List.range (k + 1))).map (Value.int .i64) := by unfold ints; rw [List.range_succ]; simp
      rw [e] at hown'
      have HO3 := Lib.hid hown'
      have HB3 := Lib.hid hB1
      clear hown' hgrow e hB1 HO HB
      go_wp2_with fail
      go_roundw
      case rel => exact ⟨k + 1, by omega, by go_num, HO3.out, HB3.out⟩
      case measure => simp [intOf]; omega
    · obtain rfl : k = n := by omega
      go_wp2_with fail
      go_ret
      exact givesInts_of (by unfold ints; simp) HO.out HB.out

set_option maxRecDepth 100000 in
set_option maxHeartbeats 4000000 in
theorem rPlay_any (a g v : Option Addr) (ca cg cv : Nat) (ps : List L) (h : List (List E)) (ns : List Nat) (w : World) (hp : LinesAt w a ps) (hc : a = none → ca = 0) (hh : RowsEAt w g h) (hn : IntsAt w v (ints ns)) (h8 : ps.length ≤ 8) (hl : h.length ≤ 1000) (hnl : ns.length ≤ 1000)
    (hok : ∀ n ∈ ns, n < h.length ∧ (rpA h n).length ≤ 4 ∧ ∀ e ∈ rpA h n, 0 ≤ e.at_ ∧ e.at_.toNat < ps.length) :
    Calls Try.prog 38 #[.slice a ps.length ca, .slice g h.length cg, .slice v ns.length cv] w (GivesLines (plyL ps h ns) w) := by
  obtain ⟨i0, hi, hz0, hz1, hz2⟩ := info_parts info_line
  have hown := World.ownsRow_lit (base := w.heap.size) (e := 33) (size := 4) w #[] 0 (Nat.le_refl _) (by simp [maxLen]) (by simp)
  have HOK := Lib.hid hok
  have HNone := Lib.hid (show a = none → ps = [] from fun e => by subst e; exact hp.none)
  have HH := Lib.hid hh
  have HNS := Lib.hid hn
  clear hok hh hn
  go_enter Try.func38, Try.ntmps38
  go_upto_region 1 with fail
  go_cut [7] (fun s7 wx => wx.ownsRow w.heap.size 33 4 s7 ps.length (lc ps) ∧ Below w.heap.size w wx)
  case first =>
    cases a with
    | none =>
      have hps := HNone.out rfl
      have hc0 := hc rfl
      subst hps
      subst hc0
      clear hp hc HOK
      go_wp2_with (at_builtin; (refine wpList_append_own_none rfl (.tmp 11) (.tmp 12) 22 rfl w.heap.size 33 i0 4 Try.underlying22 hi _ 0 [] rfl hown rfl ?_))
      have HO := Lib.hid hown
      clear hown
      go_wp2_with fail
      go_meet
      exact ⟨HO.out, (Below.refl _ _).alloc (Nat.le_refl _) _⟩
    | some ad =>
      have HC := Lib.hid hp.cells
      clear hp hc HOK
      go_wp2_with (at_builtin; (refine wpList_append_own _ rfl (.tmp 11) (.tmp 12) 22 rfl w.heap.size 33 i0 (.agg #[.int .i64 0, .int .i64 0, .int .i64 0, .int .i64 0]) 4 32 Try.underlying22 hi hz0 hz1 hz2 rfl (by decide) _ 0 [] rfl hown ad ps.length ca (lc ps) rfl ?c1 ?c2 ?c3 ?c4 ?c5 ?c6 ?_))
      case c1 => exact lc_length ps
      case c2 => intro j u hu; exact cell_alloc_keep (HC.out j u hu)
      case c3 => exact lc_one ps
      case c4 => simp [maxLen]; omega
      case c5 => omega
      intro v' w1 hown1 hgrow _
      have HB := Lib.hid (show Below w.heap.size w w1 from ((Below.refl _ _).alloc (Nat.le_refl _) _).grown hgrow (by simp) (by rintro k hk; simp [Value.ownBlock] at hk; omega))
      have HO := Lib.hid (show w1.ownsRow w.heap.size 33 4 v' ps.length (lc ps) by simpa using hown1)
      clear hown1 hown hgrow
      go_wp2_with fail
      go_meet
      exact ⟨HO.out, HB.out⟩
  case rest =>
    obtain ⟨hO0, hB0⟩ := hcut
    obtain ⟨va, vc, rfl⟩ := own_slice hO0
    have HO0 := Lib.hid hO0
    have HB0 := Lib.hid hB0
    clear hO0 hB0 hp hc HNone hown
    go_wp2_with fail
    go_loopw [8] (fun s8 wr => ∃ m : Nat, m ≤ ns.length ∧ s8 = .int .i64 m ∧ wr.ownsRow w.heap.size 33 4 (.slice va ps.length vc) ps.length (lc (plyL ps h (ns.take m))) ∧ Below w.heap.size w wr) (fun s8 _ => ns.length - (intOf s8).toNat)
    case atStart => exact ⟨0, Nat.zero_le _, rfl, HO0.out, HB0.out⟩
    case round =>
      clear HO0 HB0
      obtain ⟨m, hm, rfl, hO, hB⟩ := hrel
      obtain ⟨wo, hwo⟩ : ∃ wo, wo = wr := ⟨_, rfl⟩
      rw [← hwo] at hO hB ⊢
      clear hwo
      have HO := Lib.hid hO
      have HB := Lib.hid hB
      clear hO hB
      by_cases hlm : m < ns.length
      · obtain ⟨nb, noff, z, rfl, hnlb, hnz, n0⟩ := (HNS.out.below HB.out (Nat.le_refl _)).at_ (show m < (ints ns).length by rw [ints_len]; exact hlm)
        obtain ⟨j, hj, rfl⟩ := ints_get hnz
        obtain ⟨hjl, hx4, hxe⟩ := HOK.out j (mem_of_get hj)
        obtain ⟨hb, hoff, xs, ax, cx, rfl, hhlb, hxs, x0, hxa⟩ := HH.out.at_ hjl
        replace x0 := (HB.out.cell (p := ⟨hb, _, none⟩) hhlb).trans x0
        rw [rpA_at hxs] at hx4 hxe
        have HSN := Lib.hid (show plyL ps h (ns.take (m + 1)) = doL (plyL ps h (ns.take m)) xs by rw [List.take_add_one, hj]; show plyL ps h (_ ++ [j]) = _; rw [plyL_snoc, rpA_at hxs])
        have hql : (plyL ps h (ns.take m)).length = ps.length := plyL_len _ _ _
        have HQL := Lib.hid hql
        have HXA := Lib.hid hxa
        have HXE := Lib.hid hxe
        clear hnz hj hxs hxa hxe
        generalize plyL ps h (ns.take m) = qs at *
        go_wp2_with fail
        go_loopw [10] (fun s10 wr => ∃ k : Nat, k ≤ xs.length ∧ s10 = .int .i64 k ∧ wr.ownsRow w.heap.size 33 4 (.slice va ps.length vc) ps.length (lc (doL qs (xs.take k))) ∧ Below w.heap.size w wr) (fun s10 _ => xs.length - (intOf s10).toNat)
        case atStart => exact ⟨0, Nat.zero_le _, rfl, HO.out, HB.out⟩
        case round =>
          obtain ⟨k, hk, rfl, hO, hB⟩ := hrel
          by_cases hlt : k < xs.length
          · obtain ⟨b, off, e, rfl, hlb0, he, q0, q1, q2, q3, q4⟩ := HXA.out.at_ hlt
            obtain ⟨a0, a1⟩ := HXE.out e (mem_of_get he)
            obtain ⟨gl, rfl⟩ := own_form hO (by omega)
            have a2 : e.at_ < (ps.length : Int) := by omega
            have hlb := hlb0
            have c0 := (hB.cell (p := ⟨b, _, none⟩) hlb).trans q0
            have c1 := (hB.cell (p := ⟨b, _, none⟩) hlb).trans q1
            have c2 := (hB.cell (p := ⟨b, _, none⟩) hlb).trans q2
            have c3 := (hB.cell (p := ⟨b, _, none⟩) hlb).trans q3
            have c4 := (hB.cell (p := ⟨b, _, none⟩) hlb).trans q4
            have hO1 := own_below hO (show Below wr.heap.size wr wr.drew from ⟨rfl, rfl, rfl, Nat.le_refl _, fun _ _ => rfl⟩) (Nat.le_refl _)
            have hlt2 : e.at_.toNat < (doL qs (xs.take k)).length := by rw [doL_len, HQL.out]; exact a1
            have HTh := Lib.hid (own_there hO1 hlt2)
            have HPL := Lib.hid (puts_line hO1 hlt2 e.ln hB.drew)
            have HOne := Lib.hid (one_line e.ln)
            have HE := Lib.hid (show doL qs (xs.take (k + 1)) = (doL qs (xs.take k)).set e.at_.toNat e.ln by rw [List.take_add_one, he]; exact doL_snoc _ _ _)
            clear he hO hO1 hB hlt2
            go_upto_region 9 with fail
            refine wp_region_held_drew (S := (fun w' => w'.cell? ⟨b, off + k * 5, none⟩ = some (.int .i64 e.at_) ∧ w'.cell? ⟨b, off + k * 5 + 1, none⟩ = some (.int .i64 e.ln.op) ∧ w'.cell? ⟨b, off + k * 5 + 2, none⟩ = some (.int .i64 e.ln.to) ∧ w'.cell? ⟨b, off + k * 5 + 3, none⟩ = some (.int .i64 e.ln.a) ∧ w'.cell? ⟨b, off + k * 5 + 4, none⟩ = some (.int .i64 e.ln.b))) (by kernel_rfl) ?_ (fun hHeld => ?_)
            · exact ⟨c0, c1, c2, c3, c4⟩
            refine wpAnyH_take (i := 0) (oi := ?oiq1) (v := ?vq1) ?hiq1 (by kernel_rfl) (by kernel_rfl) (by kernel_rfl) ?hqq1 ?hyq1 hHeld ?restq1
            case hiq1 => exact rfl
            case hqq1 => exact fun _ _ _ h => h
            case hyq1 =>
              refine Or.inl ⟨by rfl, ?_⟩
              intro w hSw
              (try dsimp only at hSw)
              go_simp
              (try with_reducible rfl)
            try simp only [Act.put, List.getElem_toArray, List.getElem_cons_succ, List.getElem_cons_zero, List.setIfInBounds_toArray, List.set_cons_zero, List.set_cons_succ]
            refine wpAnyH_take (i := 1) (oi := ?oiq2) (v := ?vq2) ?hiq2 (by kernel_rfl) (by kernel_rfl) (by kernel_rfl) ?hqq2 ?hyq2 hHeld ?restq2
            case hiq2 => exact rfl
            case hqq2 => exact fun _ _ _ h => h
            case hyq2 =>
              refine Or.inl ⟨by rfl, ?_⟩
              intro w hSw
              (try dsimp only at hSw)
              go_simp
              (try with_reducible rfl)
            try simp only [Act.put, List.getElem_toArray, List.getElem_cons_succ, List.getElem_cons_zero, List.setIfInBounds_toArray, List.set_cons_zero, List.set_cons_succ]
            refine wpAnyH_take (i := 2) (oi := ?oiq3) (v := ?vq3) ?hiq3 (by kernel_rfl) (by kernel_rfl) (by kernel_rfl) ?hqq3 ?hyq3 hHeld ?restq3
            case hiq3 => exact rfl
            case hqq3 => exact fun _ _ _ h => h
            case hyq3 =>
              refine Or.inl ⟨by rfl, ?_⟩
              intro w hSw
              (try dsimp only at hSw)
              go_simp
              (try with_reducible rfl)
            try simp only [Act.put, List.getElem_toArray, List.getElem_cons_succ, List.getElem_cons_zero, List.setIfInBounds_toArray, List.set_cons_zero, List.set_cons_succ]
            refine wpAnyH_take (i := 3) (oi := ?oiq4) (v := ?vq4) ?hiq4 (by kernel_rfl) (by kernel_rfl) (by kernel_rfl) ?hqq4 ?hyq4 hHeld ?restq4
            case hiq4 => exact rfl
            case hqq4 => exact fun _ _ _ h => h
            case hyq4 =>
              refine Or.inl ⟨by rfl, ?_⟩
              intro w hSw
              (try dsimp only at hSw)
              go_simp
              (try with_reducible rfl)
            try simp only [Act.put, List.getElem_toArray, List.getElem_cons_succ, List.getElem_cons_zero, List.setIfInBounds_toArray, List.set_cons_zero, List.set_cons_succ]
            refine wpAnyH_take (i := 4) (oi := ?oiq5) (v := ?vq5) ?hiq5 (by kernel_rfl) (by kernel_rfl) (by kernel_rfl) ?hqq5 ?hyq5 hHeld ?restq5
            case hiq5 => exact rfl
            case hqq5 => exact fun _ _ _ h => h
            case hyq5 =>
              refine Or.inl ⟨by rfl, ?_⟩
              intro w hSw
              (try dsimp only at hSw)
              go_simp
              (try with_reducible rfl)
            try simp only [Act.put, List.getElem_toArray, List.getElem_cons_succ, List.getElem_cons_zero, List.setIfInBounds_toArray, List.set_cons_zero, List.set_cons_succ]
            refine wpAnyH_take (i := 5) (oi := ?oiq6) (v := ?vq6) ?hiq6 (by kernel_rfl) (by kernel_rfl) (by kernel_rfl) ?hqq6 ?hyq6 hHeld ?restq6
            case hiq6 => exact rfl
            case hqq6 => exact fun _ _ _ h => h
            case hyq6 =>
              refine Or.inl ⟨by rfl, ?_⟩
              intro w hSw
              (try dsimp only at hSw)
              go_simp
              (try with_reducible rfl)
            try simp only [Act.put, List.getElem_toArray, List.getElem_cons_succ, List.getElem_cons_zero, List.setIfInBounds_toArray, List.set_cons_zero, List.set_cons_succ]
            refine wpAnyH_take (i := 6) (oi := ?oiq7) (v := ?vq7) ?hiq7 (by kernel_rfl) (by kernel_rfl) (by kernel_rfl) ?hqq7 ?hyq7 hHeld ?restq7
            case hiq7 => exact rfl
            case hqq7 => exact fun _ _ _ h => h
            case hyq7 =>
              refine Or.inl ⟨by rfl, ?_⟩
              intro w hSw
              (try dsimp only at hSw)
              go_simp
              (try with_reducible rfl)
            try simp only [Act.put, List.getElem_toArray, List.getElem_cons_succ, List.getElem_cons_zero, List.setIfInBounds_toArray, List.set_cons_zero, List.set_cons_succ]
            refine wpAnyH_take (i := 7) (oi := ?oiq8) (v := ?vq8) ?hiq8 (by kernel_rfl) (by kernel_rfl) (by kernel_rfl) ?hqq8 ?hyq8 hHeld ?restq8
            case hiq8 => exact rfl
            case hqq8 => exact fun _ _ _ h => h
            case hyq8 =>
              refine Or.inl ⟨by rfl, ?_⟩
              intro w hSw
              (try dsimp only at hSw)
              go_simp
              (try with_reducible rfl)
            try simp only [Act.put, List.getElem_toArray, List.getElem_cons_succ, List.getElem_cons_zero, List.setIfInBounds_toArray, List.set_cons_zero, List.set_cons_succ]
            refine wpAnyH_take (i := 8) (oi := ?oiq9) (v := ?vq9) ?hiq9 (by kernel_rfl) (by kernel_rfl) (by kernel_rfl) ?hqq9 ?hyq9 hHeld ?restq9
            case hiq9 => exact rfl
            case hqq9 => exact fun _ _ _ h => h
            case hyq9 =>
              refine Or.inl ⟨by rfl, ?_⟩
              intro w hSw
              (try dsimp only at hSw)
              go_simp
              (try with_reducible rfl)
            try simp only [Act.put, List.getElem_toArray, List.getElem_cons_succ, List.getElem_cons_zero, List.setIfInBounds_toArray, List.set_cons_zero, List.set_cons_succ]
            refine wpAnyH_take (i := 9) (oi := ?oiq10) (v := ?vq10) ?hiq10 (by kernel_rfl) (by kernel_rfl) (by kernel_rfl) ?hqq10 ?hyq10 hHeld ?restq10
            case hiq10 => exact rfl
            case hqq10 => exact fun _ _ _ h => h
            case hyq10 =>
              refine Or.inl ⟨by rfl, ?_⟩
              intro w hSw
              (try dsimp only at hSw)
              go_simp
              (try with_reducible rfl)
            try simp only [Act.put, List.getElem_toArray, List.getElem_cons_succ, List.getElem_cons_zero, List.setIfInBounds_toArray, List.set_cons_zero, List.set_cons_succ]
            refine wpAnyH_take (i := 10) (oi := ?oiq11) (v := ?vq11) ?hiq11 (by kernel_rfl) (by kernel_rfl) (by kernel_rfl) ?hqq11 ?hyq11 hHeld ?restq11
            case hiq11 => exact rfl
            case hqq11 => exact fun _ _ _ h => h
            case hyq11 =>
              refine Or.inl ⟨by rfl, ?_⟩
              intro w hSw
              (try dsimp only at hSw)
              go_simp
              (try with_reducible rfl)
            try simp only [Act.put, List.getElem_toArray, List.getElem_cons_succ, List.getElem_cons_zero, List.setIfInBounds_toArray, List.set_cons_zero, List.set_cons_succ]
            refine wpAnyH_take (i := 11) (oi := ?oiq12) (v := ?vq12) ?hiq12 (by kernel_rfl) (by kernel_rfl) (by kernel_rfl) ?hqq12 ?hyq12 hHeld ?restq12
            case hiq12 => exact rfl
            case hqq12 => exact fun _ _ _ h => h
            case hyq12 =>
              refine Or.inl ⟨by rfl, ?_⟩
              intro w hSw
              (try dsimp only at hSw)
              go_simp
              (try with_reducible rfl)
            try simp only [Act.put, List.getElem_toArray, List.getElem_cons_succ, List.getElem_cons_zero, List.setIfInBounds_toArray, List.set_cons_zero, List.set_cons_succ]
            refine wpAnyH_ready (rs := [12]) (by kernel_rfl) (by simp) ?_
            refine AllReadyH.cons (o := ?or13_12) ?hr13_12 ?kr13_12 AllReadyH.nil
            case hr13_12 => exact rfl
            case kr13_12 =>
              intro Kz hKz
              rw [if_pos (by rfl)]
              refine wp_store_mid 33 (.tmp 44) (.tmp 43) rfl gl (e.at_.toNat * 4) #[.int .i64 e.ln.op, .int .i64 e.ln.to, .int .i64 e.ln.a, .int .i64 e.ln.b] rfl rfl HTh.out info_ln HOne.out ?_
              refine hKz.out _ _ ⟨(HPL.out.2.cell (p := ⟨b, _, none⟩) hlb).trans q0, (HPL.out.2.cell (p := ⟨b, _, none⟩) hlb).trans q1, (HPL.out.2.cell (p := ⟨b, _, none⟩) hlb).trans q2, (HPL.out.2.cell (p := ⟨b, _, none⟩) hlb).trans q3, (HPL.out.2.cell (p := ⟨b, _, none⟩) hlb).trans q4⟩ (fun hHeld => ?_)
              clear hKz Kz
              try simp only [Act.put, List.getElem_toArray, List.getElem_cons_succ, List.getElem_cons_zero, List.setIfInBounds_toArray, List.set_cons_zero, List.set_cons_succ]
              refine wpAnyH_done (by kernel_rfl) ?_ _
              clear hHeld
              go_wp2_with fail
              go_roundw
              case rel => exact ⟨k + 1, by omega, by go_num, by rw [HE.out]; exact HPL.out.1, HPL.out.2⟩
              case measure => simp [intOf]; omega
          · obtain rfl : k = xs.length := by omega
            rw [List.take_length] at hO
            have HO2 := Lib.hid hO
            have HB2 := Lib.hid hB
            rw [← HSN.out] at HO2
            clear hO hB
            go_wp2_with fail
            go_roundw
            case rel => exact ⟨m + 1, by omega, by go_num, HO2.out, HB2.out⟩
            case measure => simp [intOf]; omega
      · obtain rfl : m = ns.length := by omega
        rw [List.take_length] at HO
        have HL := Lib.hid (plyL_len h ns ps)
        go_wp2_with fail
        go_ret
        exact givesLines_of HL.out HO.out HB.out

theorem rok_of {ps : List L} {h : List (List E)} (e : vst ps h = 0) {ns : List Nat} (hn : ∀ n ∈ ns, n < h.length) : ∀ n ∈ ns, n < h.length ∧ (rpA h n).length ≤ 4 ∧ ∀ x ∈ rpA h n, 0 ≤ x.at_ ∧ x.at_.toNat < ps.length := fun n hm => by
  have hl := hn n hm
  obtain ⟨x, hx⟩ := get_of_lt hl
  have h1 := okX_at ((vst_ok e).2.2 x (mem_of_get hx))
  rw [rpA_at hx]
  exact ⟨hl, h1.2.2, h1.1⟩

set_option maxRecDepth 100000 in
set_option maxHeartbeats 1000000 in
theorem rHPlay_any (a g : Option Addr) (ca cg : Nat) (ps : List L) (h : List (List E)) (w : World) (hp : LinesAt w a ps) (hc : a = none → ca = 0) (hh : RowsEAt w g h) (hpl : ps.length ≤ 1000) (hhl : h.length ≤ 1000) (hm : ∀ x ∈ h, x.length ≤ 1000) :
    Calls Try.prog 13 #[.slice a ps.length ca, .slice g h.length cg] w (GivesLinesE (plyR ps h) (vst ps h) w) := by
  have HV := Lib.hid (rHval_any a g ca cg ps h w hp hh hpl hhl hm)
  by_cases hz : vst ps h = 0
  · have h8 := (vst_ok hz).2.1
    have hp8 := (vp_ok (vst_ok hz).1).1
    have HF := Lib.hid (fun w => rFirst_any h.length w (by omega))
    have HP := Lib.hid (fun v cv w h1 h2 h3 => rPlay_any a g v ca cg cv ps h (List.range h.length) w h1 hc h2 h3 hp8 (by omega) (by rw [List.length_range]; omega) (rok_of hz (fun n hn => List.mem_range.1 hn)))
    have HR := Lib.hid (show plyR ps h = plyL ps h (List.range h.length) by unfold plyR; rw [if_pos hz, plyF_all])
    have HH := Lib.hid hh
    have HL := Lib.hid hp
    rw [HR.out, hz]
    rw [hz] at HV
    rw [List.length_range] at HP
    clear hz hp hh hm
    go_enter Try.func13, Try.ntmps13
    go_wp2_with fail
    refine HV.out.mono ?_
    rintro e w1 ⟨rfl, hB⟩
    have HB := Lib.hid hB
    clear hB
    go_wp2_with fail
    refine (HF.out _).mono ?_
    rintro e w2 ⟨a2, c2, rfl, ho, hB⟩
    have HI := Lib.hid (ints_of_own ho).1
    have HB2 := Lib.hid (HB.out.trans (hB.mono HB.out.size))
    clear ho hB
    rw [ints_len, List.length_range]
    go_wp2_with fail
    refine (HP.out _ _ _ (HL.out.below HB2.out (Nat.le_refl _)) (HH.out.below HB2.out (Nat.le_refl _)) HI.out).mono ?_
    intro e w3 hG
    obtain ⟨a3, c3, rfl, ho, hB3⟩ := hG.wide HB2.out
    have HO := Lib.hid ho
    have HB3 := Lib.hid hB3
    clear hG ho hB3
    go_wp2_with fail
    go_ret2
    exact ⟨a3, c3, rfl, HO.out, HB3.out⟩
  · have HR := Lib.hid (show plyR ps h = [] by unfold plyR; rw [if_neg hz])
    rw [HR.out]
    have hz1 : (vst ps h != 0) = true := by simpa using hz
    clear hz hp hh hm
    generalize vst ps h = c at HV hz1 ⊢
    go_enter Try.func13, Try.ntmps13
    go_wp2_with fail
    refine HV.out.mono ?_
    rintro e w1 ⟨rfl, hB⟩
    have HB := Lib.hid hB
    clear hB
    go_wp2_with fail
    go_ret2
    exact givesLinesE_nil HB.out

set_option maxRecDepth 100000 in
set_option maxHeartbeats 1000000 in
theorem rHAt_any (a g : Option Addr) (ca cg : Nat) (ps : List L) (h : List (List E)) (n : Int) (w : World) (hp : LinesAt w a ps) (hc : a = none → ca = 0) (hh : RowsEAt w g h) (hpl : ps.length ≤ 1000) (hhl : h.length ≤ 1000) (hm : ∀ x ∈ h, x.length ≤ 1000) :
    Calls Try.prog 15 #[.slice a ps.length ca, .slice g h.length cg, .int .i64 n] w (GivesLinesE (atR ps h n) (atC ps h n) w) := by
  have HV := Lib.hid (rHval_any a g ca cg ps h w hp hh hpl hhl hm)
  by_cases hz : vst ps h = 0
  · have h8 := (vst_ok hz).2.1
    have hp8 := (vp_ok (vst_ok hz).1).1
    rw [hz] at HV
    cases hb : btw n 0 (h.length : Int)
    · have hac : atC ps h n = 1 := by unfold atC; rw [if_pos hz, hb]; rfl
      have HR := Lib.hid (show atR ps h n = [] by unfold atR; rw [if_neg (by rw [hac]; decide)])
      rw [HR.out, hac]
      have hlo : ¬ (0 ≤ n ∧ n ≤ (h.length : Int)) := fun h9 => by rw [btw_true.2 h9] at hb; cases hb
      clear hz hp hh hm hb
      by_cases hn0 : n < 0
      · have hd : decide (n < 0) = true := decide_eq_true hn0
        go_enter Try.func15, Try.ntmps15
        go_wp2_with fail
        refine HV.out.mono ?_
        rintro e w1 ⟨rfl, hB⟩
        have HB := Lib.hid hB
        clear hB
        go_wp2_with fail
        go_ret2
        exact givesLinesE_nil HB.out
      · have hd : decide (n < 0) = false := decide_eq_false hn0
        have hd2 : (h.length : Int) < n := by omega
        go_enter Try.func15, Try.ntmps15
        go_wp2_with fail
        refine HV.out.mono ?_
        rintro e w1 ⟨rfl, hB⟩
        have HB := Lib.hid hB
        clear hB
        go_wp2_with fail
        go_ret2
        exact givesLinesE_nil HB.out
    · have hac : atC ps h n = 0 := by unfold atC; rw [if_pos hz, hb]; rfl
      obtain ⟨hlo, hhi⟩ := btw_true.1 hb
      obtain ⟨m, rfl⟩ : ∃ m : Nat, n = (m : Int) := ⟨n.toNat, by omega⟩
      have hml : m ≤ h.length := by omega
      have HR := Lib.hid (show atR ps h (m : Int) = plyF ps (h.take m) by unfold atR; rw [if_pos hac, Int.toNat_natCast])
      rw [HR.out, hac]
      have HH := Lib.hid hh
      have HL := Lib.hid hp
      have HF := Lib.hid (fun w => rFirst_any m w (by omega))
      have HP := Lib.hid (fun v cv w h1 h2 h3 => rPlay_any a g v ca cg cv ps h (List.range m) w h1 hc h2 h3 hp8 (by omega) (by rw [List.length_range]; omega) (rok_of hz (fun n hn => by have := List.mem_range.1 hn; omega)))
      rw [List.length_range, ← plyF_take ps h hml] at HP
      clear hz hp hh hm hb hac hc
      have hd : ¬ ((m : Int) < 0) := by omega
      have hd2 : ¬ ((h.length : Int) < (m : Int)) := by omega
      go_enter Try.func15, Try.ntmps15
      go_wp2_with fail
      refine HV.out.mono ?_
      rintro e w1 ⟨rfl, hB⟩
      have HB := Lib.hid hB
      clear hB
      go_wp2_with fail
      refine (HF.out _).mono ?_
      rintro e w2 ⟨a2, c2, rfl, ho, hB⟩
      have HI := Lib.hid (ints_of_own ho).1
      have HB2 := Lib.hid (HB.out.trans (hB.mono HB.out.size))
      clear ho hB
      rw [ints_len, List.length_range]
      go_wp2_with fail
      refine (HP.out _ _ _ (HL.out.below HB2.out (Nat.le_refl _)) (HH.out.below HB2.out (Nat.le_refl _)) HI.out).mono ?_
      intro e w3 hG
      obtain ⟨a3, c3, rfl, ho, hB3⟩ := hG.wide HB2.out
      have HO := Lib.hid ho
      have HB3 := Lib.hid hB3
      clear hG ho hB3
      go_wp2_with fail
      go_ret2
      exact ⟨a3, c3, rfl, HO.out, HB3.out⟩
  · have hac : atC ps h n = vst ps h := by unfold atC; rw [if_neg hz]
    have HR := Lib.hid (show atR ps h n = [] by unfold atR; rw [if_neg (by rw [hac]; exact hz)])
    rw [HR.out, hac]
    have hz1 : (vst ps h != 0) = true := by simpa using hz
    clear hz hp hh hm hac
    generalize vst ps h = c at HV hz1 ⊢
    go_enter Try.func15, Try.ntmps15
    go_wp2_with fail
    refine HV.out.mono ?_
    rintro e w1 ⟨rfl, hB⟩
    have HB := Lib.hid hB
    clear hB
    go_wp2_with fail
    go_ret2
    exact givesLinesE_nil HB.out

set_option maxRecDepth 100000 in
set_option maxHeartbeats 1000000 in
theorem stAt_any (a g : Option Addr) (ca cg : Nat) (ps : List L) (h : List (List E)) (n : Int) (w : World) (hp : LinesAt w a ps) (hh : RowsEAt w g h) (hpl : ps.length ≤ 1000) (hhl : h.length ≤ 1000) (hm : ∀ x ∈ h, x.length ≤ 1000) (hcg : h.length ≤ cg) :
    Calls Try.prog 14 #[.slice a ps.length ca, .slice g h.length cg, .int .i64 n] w (GivesLinesE (atR ps h n) (atC ps h n) w) := by
  have HV := Lib.hid (stVal_any a g ca cg ps h w hp hh hpl hhl hm)
  have HW := Lib.hid (fun w => isBetween_any n 0 (h.length : Int) w)
  by_cases hz : vst ps h = 0
  · have h8 := (vst_ok hz).2.1
    have hp8 := (vp_ok (vst_ok hz).1).1
    rw [hz] at HV
    cases hb : btw n 0 (h.length : Int)
    · have hac : atC ps h n = 1 := by unfold atC; rw [if_pos hz, hb]; rfl
      have HR := Lib.hid (show atR ps h n = [] by unfold atR; rw [if_neg (by rw [hac]; decide)])
      rw [HR.out, hac]
      rw [hb] at HW
      clear hz hp hh hm hb
      go_enter Try.func14, Try.ntmps14
      go_wp2_with fail
      refine HV.out.mono ?_
      rintro e w1 ⟨rfl, hB⟩
      have HB := Lib.hid hB
      clear hB
      go_wp2_with fail
      refine (HW.out _).mono ?_
      rintro e w2 ⟨rfl, rfl⟩
      go_wp2_with fail
      go_ret2
      exact givesLinesE_nil HB.out
    · have hac : atC ps h n = 0 := by unfold atC; rw [if_pos hz, hb]; rfl
      obtain ⟨hlo, hhi⟩ := btw_true.1 hb
      obtain ⟨m, rfl⟩ : ∃ m : Nat, n = (m : Int) := ⟨n.toNat, by omega⟩
      have hml : m ≤ h.length := by omega
      have HR := Lib.hid (show atR ps h (m : Int) = plyF ps (h.take m) by unfold atR; rw [if_pos hac, Int.toNat_natCast])
      rw [HR.out, hac]
      have HH := Lib.hid hh
      have HL := Lib.hid hp
      have HP := Lib.hid (fun w h1 h2 => hAt_any g a cg ca h ps m w h1 h2 (okZ_of hz) h8 hcg hml)
      rw [hb] at HW
      clear hz hp hh hm hb hac
      go_enter Try.func14, Try.ntmps14
      go_wp2_with fail
      refine HV.out.mono ?_
      rintro e w1 ⟨rfl, hB⟩
      have HB := Lib.hid hB
      clear hB
      go_wp2_with fail
      refine (HW.out _).mono ?_
      rintro e w2 ⟨rfl, rfl⟩
      go_wp2_with fail
      refine (HP.out _ (HH.out.below HB.out (Nat.le_refl _)) (HL.out.below HB.out (Nat.le_refl _))).mono ?_
      intro e w3 hG
      obtain ⟨a3, c3, rfl, ho, hB3⟩ := hG.wide HB.out
      have HO := Lib.hid ho
      have HB3 := Lib.hid hB3
      clear hG ho hB3
      go_wp2_with fail
      go_ret2
      exact ⟨a3, c3, rfl, HO.out, HB3.out⟩
  · have hac : atC ps h n = vst ps h := by unfold atC; rw [if_neg hz]
    have HR := Lib.hid (show atR ps h n = [] by unfold atR; rw [if_neg (by rw [hac]; exact hz)])
    rw [HR.out, hac]
    have hz1 : (vst ps h != 0) = true := by simpa using hz
    clear hz hp hh hm hac
    generalize vst ps h = c at HV hz1 ⊢
    go_enter Try.func14, Try.ntmps14
    go_wp2_with fail
    refine HV.out.mono ?_
    rintro e w1 ⟨rfl, hB⟩
    have HB := Lib.hid hB
    clear hB
    go_wp2_with fail
    go_ret2
    exact givesLinesE_nil HB.out

end Go.Proofs.Ytikblaebfpdngaa
