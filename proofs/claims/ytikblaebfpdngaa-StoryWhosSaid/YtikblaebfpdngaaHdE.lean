/- Several texts in one. -/
import Derived.Test.YtikblaebfpdngaaHtL
import Derived.Test.YtikblaebfpdngaaRd4
import Derived.BigQuiet
import Derived.Test.YtikblaebfpdngaaRSl
import Derived.Deep.RegionHeld
import Derived.Test.YtikblaebfpdngaaHs7
import Derived.Test.YtikblaebfpdngaaKpC
/- Validate, first, play, Play, At of the document (tinkerref07): contracts. -/
set_option linter.unusedVariables false
set_option linter.unusedSimpArgs false
namespace Go.Proofs.Ytikblaebfpdngaa
open Go.RowKit Tinker

theorem vrp_plc {ps : List L} {x : List E} (hv : vp ps = 0) (hx : vx x = 0) : vrp ps x = plcC ps x := by rw [vrp_vpx hv]; exact plc_vpx (by rw [hv, hx]; rfl)
theorem vrp_far {ps : List L} {x : List E} (hv : vp ps = 0) (hx : vx x = 0) {k : Nat} {e : E} (he : x[k]? = some e) (hn : ¬ e.at_ < (ps.length : Int)) : vrp ps x = 4 := by
  rw [vrp_plc hv hx]
  unfold plcC
  rw [all_not he (decide_eq_false hn)]
  rfl
theorem vrp_near {ps : List L} {x : List E} (hv : vp ps = 0) (hx : vx x = 0) (ha : x.all (fun e => decide (e.at_ < (ps.length : Int))) = true) : vrp ps x = 0 := by
  rw [vrp_plc hv hx]
  unfold plcC
  rw [ha]
  rfl

set_option maxRecDepth 100000 in
set_option maxHeartbeats 2000000 in
theorem rHval_any (a g : Option Addr) (ca cg : Nat) (ps : List L) (h : List (List E)) (w : World) (hp : LinesAt w a ps) (hh : RowsEAt w g h) (hpl : ps.length ≤ 1000) (hhl : h.length ≤ 1000) (hm : ∀ x ∈ h, x.length ≤ 1000) :
    Calls Try.prog 17 #[.slice a ps.length ca, .slice g h.length cg] w fun e w' => e = .returned (.int .i64 (vst ps h)) ∧ Below w.heap.size w w' := by
  have HV := Lib.hid (fun w h => rValidate_any a ca ps w h)
  by_cases hv : vp ps = 0
  · rw [hv] at HV
    by_cases h8 : 8 < h.length
    · have HR := Lib.hid (vst_2 hv h8)
      rw [HR.out]
      have h8' : (8 : Int) < (h.length : Int) := by omega
      clear hh hv HR
      go_enter Try.func17, Try.ntmps17
      go_wp2_with fail
      refine (HV.out _ hp).mono ?_
      rintro e w1 ⟨rfl, hB⟩
      have HB := Lib.hid hB
      clear hB
      go_wp2_with fail
      go_ret
      exact ⟨rfl, HB.out⟩
    · have h8' : ¬ (8 : Int) < (h.length : Int) := by omega
      have HV3 := Lib.hid (fun k x ha hx hn => vst_3 (k := k) (x := x) hv h8 ha hx hn)
      have HV4 := Lib.hid (fun ha => vst_4 hv h8 ha)
      have HM := Lib.hid hm
      have HH := Lib.hid hh
      have HVP := Lib.hid hv
      generalize vst ps h = r at HV3 HV4 ⊢
      clear hv hm hh
      go_enter Try.func17, Try.ntmps17
      go_wp2_with fail
      refine (HV.out _ hp).mono ?_
      rintro e w1 ⟨rfl, hB⟩
      have HB := Lib.hid hB
      clear hB
      go_wp2_with fail
      go_loopw [6] (fun s6 wr => ∃ k : Nat, k ≤ h.length ∧ s6 = .int .i64 k ∧ (h.take k).all (fun x => vrp ps x == 0) = true ∧ Below w.heap.size w wr) (fun s6 _ => h.length - (intOf s6).toNat)
      case atStart => exact ⟨0, Nat.zero_le _, rfl, by simp, HB.out⟩
      case round =>
        obtain ⟨k, hk, rfl, hall, hB⟩ := hrel
        have HA := Lib.hid hall
        have HBR := Lib.hid hB
        clear hall hB HB
        by_cases hlt : k < h.length
        · obtain ⟨b, off, x, ax, cx, rfl, hlb, hx, c0, hxe⟩ := (HH.out.below HBR.out (Nat.le_refl _)).at_ hlt
          have HX := Lib.hid hx
          have HXE := Lib.hid hxe
          have hxl : x.length ≤ 1000 := HM.out x (mem_of_get hx)
          have HC := Lib.hid (fun W h => rVal4_any ax cx x W h hxl)
          clear hx hxe
          by_cases hz : vx x = 0
          · have HVX := Lib.hid hz
            rw [hz] at HC
            clear hz
            go_wp2_with fail
            refine (HC.out _ HXE.out).mono ?_
            rintro e w3 ⟨rfl, hB3⟩
            have HB3 := Lib.hid (HBR.out.trans (hB3.mono HBR.out.size))
            have HX3 := Lib.hid (HXE.out.below hB3 (Nat.le_refl _))
            replace c0 := (hB3.cell (p := ⟨b, _, none⟩) hlb).trans c0
            clear hB3 HXE
            go_wp2_with fail
            go_loopw [7] (fun s7 wx => ∃ j : Nat, j ≤ x.length ∧ s7 = .int .i64 j ∧ (x.take j).all (fun e => decide (e.at_ < (ps.length : Int))) = true ∧ wx = w3) (fun s7 _ => x.length - (intOf s7).toNat)
            case atStart => exact ⟨0, Nat.zero_le _, rfl, by simp, rfl⟩
            case round =>
              obtain ⟨j, hj, rfl, hall, rfl⟩ := hrel
              have HA2 := Lib.hid hall
              clear hall
              by_cases hlj : j < x.length
              · obtain ⟨b2, o2, e, rfl, hlb2, he, d0, d1, d2, d3, d4⟩ := HX3.out.at_ hlj
                have HE := Lib.hid he
                clear he
                by_cases hn : e.at_ < (ps.length : Int)
                · have HN := Lib.hid (all_snoc (f := fun e : E => decide (e.at_ < (ps.length : Int))) HA2.out HE.out (decide_eq_true hn))
                  go_wp2_with fail
                  go_roundw
                  case rel => exact ⟨j + 1, by omega, by go_num, HN.out, by first | trivial | rfl⟩
                  case measure => simp [intOf]; omega
                · have HR := Lib.hid (HV3.out k x HA.out HX.out (by rw [vrp_far HVP.out HVX.out HE.out hn]; decide))
                  rw [vrp_far HVP.out HVX.out HE.out hn] at HR
                  go_wp2_with fail
                  go_ret
                  exact ⟨ret_int HR.out.symm, HB3.out⟩
              · have HN := Lib.hid (all_snoc (f := fun x => vrp ps x == 0) HA.out HX.out (by simpa using vrp_near HVP.out HVX.out (all_whole HA2.out hlj)))
                go_wp2_with fail
                go_roundw
                case rel => exact ⟨k + 1, by omega, by go_num, HN.out, HB3.out⟩
                case measure => simp [intOf]; omega
          · have HR := Lib.hid (HV3.out k x HA.out HX.out (by rw [vrp_0 hz]; exact hz))
            rw [vrp_0 hz] at HR
            have hz1 : (vx x != 0) = true := by simpa using hz
            clear hz
            generalize vx x = c at HC HR hz1
            go_wp2_with fail
            refine (HC.out _ HXE.out).mono ?_
            rintro e w3 ⟨rfl, hB3⟩
            have HB3 := Lib.hid (HBR.out.trans (hB3.mono HBR.out.size))
            clear hB3
            go_wp2_with fail
            go_ret
            exact ⟨ret_int HR.out.symm, HB3.out⟩
        · have HR := Lib.hid (HV4.out (all_whole HA.out hlt))
          go_wp2_with fail
          go_ret
          exact ⟨ret_int HR.out.symm, HBR.out⟩
  · have HR := Lib.hid (vst_1 (h := h) hv)
    rw [HR.out]
    have hz1 : (vp ps != 0) = true := by simpa using hv
    clear hv hh HR
    generalize vp ps = c at HV hz1 ⊢
    go_enter Try.func17, Try.ntmps17
    go_wp2_with fail
    refine (HV.out _ hp).mono ?_
    rintro e w1 ⟨rfl, hB⟩
    have HB := Lib.hid hB
    clear hB
    go_wp2_with fail
    go_ret
    exact ⟨rfl, HB.out⟩

set_option maxRecDepth 100000 in
set_option maxHeartbeats 1000000 in
theorem rFirst_any (n : Nat) (w : World) (hn : n ≤ 1000) :
    Calls Try.prog 39 #[.int .i64 n] w (GivesInts (ints (List.range n)) w) := by
  obtain ⟨i0, hi, hz0, hz1, hz2⟩ := info_parts info_int
  go_enter Try.func39, Try.ntmps39
  go_wp2_with fail
  go_loopw [3, 4] (fun s3 s4 wr => ∃ k : Nat, k ≤ n ∧ s4 = .int .i64 k ∧ wr.ownsRow w.heap.size 3 1 s3 k ((ints (List.range k)).map (Value.int .i64)) ∧ Below w.heap.size w wr) (fun _ s4 _ => n - (intOf s4).toNat)
  case atStart => exact ⟨0, Nat.zero_le _, rfl, World.ownsRow_nil _ _ _ _, Below.refl _ _⟩
  case round =>
    obtain ⟨k, hk, rfl, hown, hB⟩ := hrel
    have HO := Lib.hid hown
    have HB := Lib.hid hB
    clear hown hB
    by_cases hlt : k < n
    · go_wp2_with (at_builtin; refine wpList_append_own _ rfl (.tmp 10) (.tmp 12) 35 rfl w.heap.size 3 i0 (.int .i64 0) 1 8 Try.underlying35 hi hz0 hz1 hz2 rfl (by decide) _ _ _ rfl (HO.out.alloc _) ⟨wr.heap.size, 0, none⟩ 1 1 [.int .i64 k] rfl rfl ?c1 ?c2 ?c3 ?c4 ?c5 ?_)
      case c1 => exact cell_one_new _ _ _
      case c2 => simp [Value.oneCell']
      case c3 => unfold maxLen; omega
      case c4 => omega
      case c5 => have := HB.out.size; simp; omega
      intro v' w1 hown' hgrow _
      have hB1 : Below w.heap.size w w1 := (HB.out.alloc HB.out.size _).grown hgrow (by have := HB.out.size; simp; omega) (own_base HO.out)
      have e : (ints (List.range k)).map (Value.int .i64) ++ [.int .i64 k] = (ints (List.range (k + 1))).map (Value.int .i64) := by unfold ints; rw [List.range_succ]; simp
      rw [e] at hown'
      have HO3 := Lib.hid hown'
      have HB3 := Lib.hid hB1
      clear hown' hgrow e hB1 HO HB
      go_wp2_with fail
      go_roundw
      case rel => exact ⟨k + 1, by omega, by go_num, HO3.out, HB3.out⟩
      case measure => simp [intOf]; omega
    · obtain rfl : k = n := by omega
      go_wp2_with fail
      go_ret
      exact givesInts_of (by unfold ints; simp) HO.out HB.out

set_option maxRecDepth 100000 in
set_option maxHeartbeats 4000000 in
theorem rPlay_any (a g v : Option Addr) (ca cg cv : Nat) (ps : List L) (h : List (List E)) (ns : List Nat) (w : World) (hp : LinesAt w a ps) (hc : a = none → ca = 0) (hh : RowsEAt w g h) (hn : IntsAt w v (ints ns)) (h8 : ps.length ≤ 8) (hl : h.length ≤ 1000) (hnl : ns.length ≤ 1000)
    (hok : ∀ n ∈ ns, n < h.length ∧ (rpA h n).length ≤ 4 ∧ ∀ e ∈ rpA h n, 0 ≤ e.at_ ∧ e.at_.toNat < ps.length) :
    Calls Try.prog 38 #[.slice a ps.length ca, .slice g h.length cg, .slice v ns.length cv] w (GivesLines (plyL ps h ns) w) := by
  obtain ⟨i0, hi, hz0, hz1, hz2⟩ := info_parts info_line
  have hown := World.ownsRow_lit (base := w.heap.size) (e := 33) (size := 4) w #[] 0 (Nat.le_refl _) (by simp [maxLen]) (by simp)
  have HOK := Lib.hid hok
  have HNone := Lib.hid (show a = none → ps = [] from fun e => by subst e; exact hp.none)
  have HH := Lib.hid hh
  have HNS := Lib.hid hn
  clear hok hh hn
  go_enter Try.func38, Try.ntmps38
  go_upto_region 1 with fail
  go_cut [7] (fun s7 wx => wx.ownsRow w.heap.size 33 4 s7 ps.length (lc ps) ∧ Below w.heap.size w wx)
  case first =>
    cases a with
    | none =>
      have hps := HNone.out rfl
      have hc0 := hc rfl
      subst hps
      subst hc0
      clear hp hc HOK
      go_wp2_with (at_builtin; (refine wpList_append_own_none rfl (.tmp 11) (.tmp 12) 22 rfl w.heap.size 33 i0 4 Try.underlying22 hi _ 0 [] rfl hown rfl ?_))
      have HO := Lib.hid hown
      clear hown
      go_wp2_with fail
      go_meet
      exact ⟨HO.out, (Below.refl _ _).alloc (Nat.le_refl _) _⟩
    | some ad =>
      have HC := Lib.hid hp.cells
      clear hp hc HOK
      go_wp2_with (at_builtin; (refine wpList_append_own _ rfl (.tmp 11) (.tmp 12) 22 rfl w.heap.size 33 i0 (.agg #[.int .i64 0, .int .i64 0, .int .i64 0, .int .i64 0]) 4 32 Try.underlying22 hi hz0 hz1 hz2 rfl (by decide) _ 0 [] rfl hown ad ps.length ca (lc ps) rfl ?c1 ?c2 ?c3 ?c4 ?c5 ?c6 ?_))
      case c1 => exact lc_length ps
      case c2 => intro j u hu; exact cell_alloc_keep (HC.out j u hu)
      case c3 => exact lc_one ps
      case c4 => simp [maxLen]; omega
      case c5 => omega
      intro v' w1 hown1 hgrow _
      have HB := Lib.hid (show Below w.heap.size w w1 from ((Below.refl _ _).alloc (Nat.le_refl _) _).grown hgrow (by simp) (by rintro k hk; simp [Value.ownBlock] at hk; omega))
      have HO := Lib.hid (show w1.ownsRow w.heap.size 33 4 v' ps.length (lc ps) by simpa using hown1)
      clear hown1 hown hgrow
      go_wp2_with fail
      go_meet
      exact ⟨HO.out, HB.out⟩
  case rest =>
    obtain ⟨hO0, hB0⟩ := hcut
    obtain ⟨va, vc, rfl⟩ := own_slice hO0
    have HO0 := Lib.hid hO0
    have HB0 := Lib.hid hB0
    clear hO0 hB0 hp hc HNone hown
    go_wp2_with fail
    go_loopw [8] (fun s8 wr => ∃ m : Nat, m ≤ ns.length ∧ s8 = .int .i64 m ∧ wr.ownsRow w.heap.size 33 4 (.slice va ps.length vc) ps.length (lc (plyL ps h (ns.take m))) ∧ Below w.heap.size w wr) (fun s8 _ => ns.length - (intOf s8).toNat)
    case atStart => exact ⟨0, Nat.zero_le _, rfl, HO0.out, HB0.out⟩
    case round =>
      clear HO0 HB0
      obtain ⟨m, hm, rfl, hO, hB⟩ := hrel
      obtain ⟨wo, hwo⟩ : ∃ wo, wo = wr := ⟨_, rfl⟩
      rw [← hwo] at hO hB ⊢
      clear hwo
      have HO := Lib.hid hO
      have HB := Lib.hid hB
      clear hO hB
      by_cases hlm : m < ns.length
      · obtain ⟨nb, noff, z, rfl, hnlb, hnz, n0⟩ := (HNS.out.below HB.out (Nat.le_refl _)).at_ (show m < (ints ns).length by rw [ints_len]; exact hlm)
        obtain ⟨j, hj, rfl⟩ := ints_get hnz
        obtain ⟨hjl, hx4, hxe⟩ := HOK.out j (mem_of_get hj)
        obtain ⟨hb, hoff, xs, ax, cx, rfl, hhlb, hxs, x0, hxa⟩ := HH.out.at_ hjl
        replace x0 := (HB.out.cell (p := ⟨hb, _, none⟩) hhlb).trans x0
        rw [rpA_at hxs] at hx4 hxe
        have HSN := Lib.hid (show plyL ps h (ns.take (m + 1)) = doL (plyL ps h (ns.take m)) xs by rw [List.take_add_one, hj]; show plyL ps h (_ ++ [j]) = _; rw [plyL_snoc, rpA_at hxs])
        have hql : (plyL ps h (ns.take m)).length = ps.length := plyL_len _ _ _
        have HQL := Lib.hid hql
        have HXA := Lib.hid hxa
        have HXE := Lib.hid hxe
        clear hnz hj hxs hxa hxe
        generalize plyL ps h (ns.take m) = qs at *
        go_wp2_with fail
        go_loopw [10] (fun s10 wr => ∃ k : Nat, k ≤ xs.length ∧ s10 = .int .i64 k ∧ wr.ownsRow w.heap.size 33 4 (.slice va ps.length vc) ps.length (lc (doL qs (xs.take k))) ∧ Below w.heap.size w wr) (fun s10 _ => xs.length - (intOf s10).toNat)
        case atStart => exact ⟨0, Nat.zero_le _, rfl, HO.out, HB.out⟩
        case round =>
          obtain ⟨k, hk, rfl, hO, hB⟩ := hrel
          by_cases hlt : k < xs.length
          · obtain ⟨b, off, e, rfl, hlb0, he, q0, q1, q2, q3, q4⟩ := HXA.out.at_ hlt
            obtain ⟨a0, a1⟩ := HXE.out e (mem_of_get he)
            obtain ⟨gl, rfl⟩ := own_form hO (by omega)
            have a2 : e.at_ < (ps.length : Int) := by omega
            have hlb := hlb0
            have c0 := (hB.cell (p := ⟨b, _, none⟩) hlb).trans q0
            have c1 := (hB.cell (p := ⟨b, _, none⟩) hlb).trans q1
            have c2 := (hB.cell (p := ⟨b, _, none⟩) hlb).trans q2
            have c3 := (hB.cell (p := ⟨b, _, none⟩) hlb).trans q3
            have c4 := (hB.cell (p := ⟨b, _, none⟩) hlb).trans q4
            have hO1 := own_below hO (show Below wr.heap.size wr wr.drew from ⟨rfl, rfl, rfl, Nat.le_refl _, fun _ _ => rfl⟩) (Nat.le_refl _)
            have hlt2 : e.at_.toNat < (doL qs (xs.take k)).length := by rw [doL_len, HQL.out]; exact a1
            have HTh := Lib.hid (own_there hO1 hlt2)
            have HPL := Lib.hid (puts_line hO1 hlt2 e.ln hB.drew)
            have HOne := Lib.hid (one_line e.ln)
            have HE := Lib.hid (show doL qs (xs.take (k + 1)) = (doL qs (xs.take k)).set e.at_.toNat e.ln by rw [List.take_add_one, he]; exact doL_snoc _ _ _)
            clear he hO hO1 hB hlt2
            go_upto_region 9 with fail
            refine wp_region_held_drew (S := (fun w' => w'.cell? ⟨b, off + k * 5, none⟩ = some (.int .i64 e.at_) ∧ w'.cell? ⟨b, off + k * 5 + 1, none⟩ = some (.int .i64 e.ln.op) ∧ w'.cell? ⟨b, off + k * 5 + 2, none⟩ = some (.int .i64 e.ln.to) ∧ w'.cell? ⟨b, off + k * 5 + 3, none⟩ = some (.int .i64 e.ln.a) ∧ w'.cell? ⟨b, off + k * 5 + 4, none⟩ = some (.int .i64 e.ln.b))) (by kernel_rfl) ?_ (fun hHeld => ?_)
            · exact ⟨c0, c1, c2, c3, c4⟩
            refine wpAnyH_take (i := 0) (oi := ?oiq1) (v := ?vq1) ?hiq1 (by kernel_rfl) (by kernel_rfl) (by kernel_rfl) ?hqq1 ?hyq1 hHeld ?restq1
            case hiq1 => exact rfl
            case hqq1 => exact fun _ _ _ h => h
            case hyq1 =>
              refine Or.inl ⟨by rfl, ?_⟩
              intro w hSw
              (try dsimp only at hSw)
              go_simp
              (try with_reducible rfl)
            try simp only [Act.put, List.getElem_toArray, List.getElem_cons_succ, List.getElem_cons_zero, List.setIfInBounds_toArray, List.set_cons_zero, List.set_cons_succ]
            refine wpAnyH_take (i := 1) (oi := ?oiq2) (v := ?vq2) ?hiq2 (by kernel_rfl) (by kernel_rfl) (by kernel_rfl) ?hqq2 ?hyq2 hHeld ?restq2
            case hiq2 => exact rfl
            case hqq2 => exact fun _ _ _ h => h
            case hyq2 =>
              refine Or.inl ⟨by rfl, ?_⟩
              intro w hSw
              (try dsimp only at hSw)
              go_simp
              (try with_reducible rfl)
            try simp only [Act.put, List.getElem_toArray, List.getElem_cons_succ, List.getElem_cons_zero, List.setIfInBounds_toArray, List.set_cons_zero, List.set_cons_succ]
            refine wpAnyH_take (i := 2) (oi := ?oiq3) (v := ?vq3) ?hiq3 (by kernel_rfl) (by kernel_rfl) (by kernel_rfl) ?hqq3 ?hyq3 hHeld ?restq3
            case hiq3 => exact rfl
            case hqq3 => exact fun _ _ _ h => h
            case hyq3 =>
              refine Or.inl ⟨by rfl, ?_⟩
              intro w hSw
              (try dsimp only at hSw)
              go_simp
              (try with_reducible rfl)
            try simp only [Act.put, List.getElem_toArray, List.getElem_cons_succ, List.getElem_cons_zero, List.setIfInBounds_toArray, List.set_cons_zero, List.set_cons_succ]
            refine wpAnyH_take (i := 3) (oi := ?oiq4) (v := ?vq4) ?hiq4 (by kernel_rfl) (by kernel_rfl) (by kernel_rfl) ?hqq4 ?hyq4 hHeld ?restq4
            case hiq4 => exact rfl
            case hqq4 => exact fun _ _ _ h => h
            case hyq4 =>
              refine Or.inl ⟨by rfl, ?_⟩
              intro w hSw
              (try dsimp only at hSw)
              go_simp
              (try with_reducible rfl)
            try simp only [Act.put, List.getElem_toArray, List.getElem_cons_succ, List.getElem_cons_zero, List.setIfInBounds_toArray, List.set_cons_zero, List.set_cons_succ]
            refine wpAnyH_take (i := 4) (oi := ?oiq5) (v := ?vq5) ?hiq5 (by kernel_rfl) (by kernel_rfl) (by kernel_rfl) ?hqq5 ?hyq5 hHeld ?restq5
            case hiq5 => exact rfl
            case hqq5 => exact fun _ _ _ h => h
            case hyq5 =>
              refine Or.inl ⟨by rfl, ?_⟩
              intro w hSw
              (try dsimp only at hSw)
              go_simp
              (try with_reducible rfl)
            try simp only [Act.put, List.getElem_toArray, List.getElem_cons_succ, List.getElem_cons_zero, List.setIfInBounds_toArray, List.set_cons_zero, List.set_cons_succ]
            refine wpAnyH_take (i := 5) (oi := ?oiq6) (v := ?vq6) ?hiq6 (by kernel_rfl) (by kernel_rfl) (by kernel_rfl) ?hqq6 ?hyq6 hHeld ?restq6
            case hiq6 => exact rfl
            case hqq6 => exact fun _ _ _ h => h
            case hyq6 =>
              refine Or.inl ⟨by rfl, ?_⟩
              intro w hSw
              (try dsimp only at hSw)
              go_simp
              (try with_reducible rfl)
            try simp only [Act.put, List.getElem_toArray, List.getElem_cons_succ, List.getElem_cons_zero, List.setIfInBounds_toArray, List.set_cons_zero, List.set_cons_succ]
            refine wpAnyH_take (i := 6) (oi := ?oiq7) (v := ?vq7) ?hiq7 (by kernel_rfl) (by kernel_rfl) (by kernel_rfl) ?hqq7 ?hyq7 hHeld ?restq7
            case hiq7 => exact rfl
            case hqq7 => exact fun _ _ _ h => h
            case hyq7 =>
              refine Or.inl ⟨by rfl, ?_⟩
              intro w hSw
              (try dsimp only at hSw)
              go_simp
              (try with_reducible rfl)
            try simp only [Act.put, List.getElem_toArray, List.getElem_cons_succ, List.getElem_cons_zero, List.setIfInBounds_toArray, List.set_cons_zero, List.set_cons_succ]
            refine wpAnyH_take (i := 7) (oi := ?oiq8) (v := ?vq8) ?hiq8 (by kernel_rfl) (by kernel_rfl) (by kernel_rfl) ?hqq8 ?hyq8 hHeld ?restq8
            case hiq8 => exact rfl
            case hqq8 => exact fun _ _ _ h => h
            case hyq8 =>
              refine Or.inl ⟨by rfl, ?_⟩
              intro w hSw
              (try dsimp only at hSw)
              go_simp
              (try with_reducible rfl)
            try simp only [Act.put, List.getElem_toArray, List.getElem_cons_succ, List.getElem_cons_zero, List.setIfInBounds_toArray, List.set_cons_zero, List.set_cons_succ]
            refine wpAnyH_take (i := 8) (oi := ?oiq9) (v := ?vq9) ?hiq9 (by kernel_rfl) (by kernel_rfl) (by kernel_rfl) ?hqq9 ?hyq9 hHeld ?restq9
            case hiq9 => exact rfl
            case hqq9 => exact fun _ _ _ h => h
            case hyq9 =>
              refine Or.inl ⟨by rfl, ?_⟩
              intro w hSw
              (try dsimp only at hSw)
              go_simp
              (try with_reducible rfl)
            try simp only [Act.put, List.getElem_toArray, List.getElem_cons_succ, List.getElem_cons_zero, List.setIfInBounds_toArray, List.set_cons_zero, List.set_cons_succ]
            refine wpAnyH_take (i := 9) (oi := ?oiq10) (v := ?vq10) ?hiq10 (by kernel_rfl) (by kernel_rfl) (by kernel_rfl) ?hqq10 ?hyq10 hHeld ?restq10
            case hiq10 => exact rfl
            case hqq10 => exact fun _ _ _ h => h
            case hyq10 =>
              refine Or.inl ⟨by rfl, ?_⟩
              intro w hSw
              (try dsimp only at hSw)
              go_simp
              (try with_reducible rfl)
            try simp only [Act.put, List.getElem_toArray, List.getElem_cons_succ, List.getElem_cons_zero, List.setIfInBounds_toArray, List.set_cons_zero, List.set_cons_succ]
            refine wpAnyH_take (i := 10) (oi := ?oiq11) (v := ?vq11) ?hiq11 (by kernel_rfl) (by kernel_rfl) (by kernel_rfl) ?hqq11 ?hyq11 hHeld ?restq11
            case hiq11 => exact rfl
            case hqq11 => exact fun _ _ _ h => h
            case hyq11 =>
              refine Or.inl ⟨by rfl, ?_⟩
              intro w hSw
              (try dsimp only at hSw)
              go_simp
              (try with_reducible rfl)
            try simp only [Act.put, List.getElem_toArray, List.getElem_cons_succ, List.getElem_cons_zero, List.setIfInBounds_toArray, List.set_cons_zero, List.set_cons_succ]
            refine wpAnyH_take (i := 11) (oi := ?oiq12) (v := ?vq12) ?hiq12 (by kernel_rfl) (by kernel_rfl) (by kernel_rfl) ?hqq12 ?hyq12 hHeld ?restq12
            case hiq12 => exact rfl
            case hqq12 => exact fun _ _ _ h => h
            case hyq12 =>
              refine Or.inl ⟨by rfl, ?_⟩
              intro w hSw
              (try dsimp only at hSw)
              go_simp
              (try with_reducible rfl)
            try simp only [Act.put, List.getElem_toArray, List.getElem_cons_succ, List.getElem_cons_zero, List.setIfInBounds_toArray, List.set_cons_zero, List.set_cons_succ]
            refine wpAnyH_ready (rs := [12]) (by kernel_rfl) (by simp) ?_
            refine AllReadyH.cons (o := ?or13_12) ?hr13_12 ?kr13_12 AllReadyH.nil
            case hr13_12 => exact rfl
            case kr13_12 =>
              intro Kz hKz
              rw [if_pos (by rfl)]
              refine wp_store_mid 33 (.tmp 44) (.tmp 43) rfl gl (e.at_.toNat * 4) #[.int .i64 e.ln.op, .int .i64 e.ln.to, .int .i64 e.ln.a, .int .i64 e.ln.b] rfl rfl HTh.out info_ln HOne.out ?_
              refine hKz.out _ _ ⟨(HPL.out.2.cell (p := ⟨b, _, none⟩) hlb).trans q0, (HPL.out.2.cell (p := ⟨b, _, none⟩) hlb).trans q1, (HPL.out.2.cell (p := ⟨b, _, none⟩) hlb).trans q2, (HPL.out.2.cell (p := ⟨b, _, none⟩) hlb).trans q3, (HPL.out.2.cell (p := ⟨b, _, none⟩) hlb).trans q4⟩ (fun hHeld => ?_)
              clear hKz Kz
              try simp only [Act.put, List.getElem_toArray, List.getElem_cons_succ, List.getElem_cons_zero, List.setIfInBounds_toArray, List.set_cons_zero, List.set_cons_succ]
              refine wpAnyH_done (by kernel_rfl) ?_ _
              clear hHeld
              go_wp2_with fail
              go_roundw
              case rel => exact ⟨k + 1, by omega, by go_num, by rw [HE.out]; exact HPL.out.1, HPL.out.2⟩
              case measure => simp [intOf]; omega
          · obtain rfl : k = xs.length := by omega
            rw [List.take_length] at hO
            have HO2 := Lib.hid hO
            have HB2 := Lib.hid hB
            rw [← HSN.out] at HO2
            clear hO hB
            go_wp2_with fail
            go_roundw
            case rel => exact ⟨m + 1, by omega, by go_num, HO2.out, HB2.out⟩
            case measure => simp [intOf]; omega
      · obtain rfl : m = ns.length := by omega
        rw [List.take_length] at HO
        have HL := Lib.hid (plyL_len h ns ps)
        go_wp2_with fail
        go_ret
        exact givesLines_of HL.out HO.out HB.out

theorem rok_of {ps : List L} {h : List (List E)} (e : vst ps h = 0) {ns : List Nat} (hn : ∀ n ∈ ns, n < h.length) : ∀ n ∈ ns, n < h.length ∧ (rpA h n).length ≤ 4 ∧ ∀ x ∈ rpA h n, 0 ≤ x.at_ ∧ x.at_.toNat < ps.length := fun n hm => by
  have hl := hn n hm
  obtain ⟨x, hx⟩ := get_of_lt hl
  have h1 := okX_at ((vst_ok e).2.2 x (mem_of_get hx))
  rw [rpA_at hx]
  exact ⟨hl, h1.2.2, h1.1⟩

set_option maxRecDepth 100000 in
set_option maxHeartbeats 1000000 in
theorem rHPlay_any (a g : Option Addr) (ca cg : Nat) (ps : List L) (h : List (List E)) (w : World) (hp : LinesAt w a ps) (hc : a = none → ca = 0) (hh : RowsEAt w g h) (hpl : ps.length ≤ 1000) (hhl : h.length ≤ 1000) (hm : ∀ x ∈ h, x.length ≤ 1000) :
    Calls Try.prog 13 #[.slice a ps.length ca, .slice g h.length cg] w (GivesLinesE (plyR ps h) (vst ps h) w) := by
  have HV := Lib.hid (rHval_any a g ca cg ps h w hp hh hpl hhl hm)
  by_cases hz : vst ps h = 0
  · have h8 := (vst_ok hz).2.1
    have hp8 := (vp_ok (vst_ok hz).1).1
    have HF := Lib.hid (fun w => rFirst_any h.length w (by omega))
    have HP := Lib.hid (fun v cv w h1 h2 h3 => rPlay_any a g v ca cg cv ps h (List.range h.length) w h1 hc h2 h3 hp8 (by omega) (by rw [List.length_range]; omega) (rok_of hz (fun n hn => List.mem_range.1 hn)))
    have HR := Lib.hid (show plyR ps h = plyL ps h (List.range h.length) by unfold plyR; rw [if_pos hz, plyF_all])
    have HH := Lib.hid hh
    have HL := Lib.hid hp
    rw [HR.out, hz]
    rw [hz] at HV
    rw [List.length_range] at HP
    clear hz hp hh hm
    go_enter Try.func13, Try.ntmps13
    go_wp2_with fail
    refine HV.out.mono ?_
    rintro e w1 ⟨rfl, hB⟩
    have HB := Lib.hid hB
    clear hB
    go_wp2_with fail
    refine (HF.out _).mono ?_
    rintro e w2 ⟨a2, c2, rfl, ho, hB⟩
    have HI := Lib.hid (ints_of_own ho).1
    have HB2 := Lib.hid (HB.out.trans (hB.mono HB.out.size))
    clear ho hB
    rw [ints_len, List.length_range]
    go_wp2_with fail
    refine (HP.out _ _ _ (HL.out.below HB2.out (Nat.le_refl _)) (HH.out.below HB2.out (Nat.le_refl _)) HI.out).mono ?_
    intro e w3 hG
    obtain ⟨a3, c3, rfl, ho, hB3⟩ := hG.wide HB2.out
    have HO := Lib.hid ho
    have HB3 := Lib.hid hB3
    clear hG ho hB3
    go_wp2_with fail
    go_ret2
    exact ⟨a3, c3, rfl, HO.out, HB3.out⟩
  · have HR := Lib.hid (show plyR ps h = [] by unfold plyR; rw [if_neg hz])
    rw [HR.out]
    have hz1 : (vst ps h != 0) = true := by simpa using hz
    clear hz hp hh hm
    generalize vst ps h = c at HV hz1 ⊢
    go_enter Try.func13, Try.ntmps13
    go_wp2_with fail
    refine HV.out.mono ?_
    rintro e w1 ⟨rfl, hB⟩
    have HB := Lib.hid hB
    clear hB
    go_wp2_with fail
    go_ret2
    exact givesLinesE_nil HB.out

set_option maxRecDepth 100000 in
set_option maxHeartbeats 1000000 in
theorem rHAt_any (a g : Option Addr) (ca cg : Nat) (ps : List L) (h : List (List E)) (n : Int) (w : World) (hp : LinesAt w a ps) (hc : a = none → ca = 0) (hh : RowsEAt w g h) (hpl : ps.length ≤ 1000) (hhl : h.length ≤ 1000) (hm : ∀ x ∈ h, x.length ≤ 1000) :
    Calls Try.prog 15 #[.slice a ps.length ca, .slice g h.length cg, .int .i64 n] w (GivesLinesE (atR ps h n) (atC ps h n) w) := by
  have HV := Lib.hid (rHval_any a g ca cg ps h w hp hh hpl hhl hm)
  by_cases hz : vst ps h = 0
  · have h8 := (vst_ok hz).2.1
    have hp8 := (vp_ok (vst_ok hz).1).1
    rw [hz] at HV
    cases hb : btw n 0 (h.length : Int)
    · have hac : atC ps h n = 1 := by unfold atC; rw [if_pos hz, hb]; rfl
      have HR := Lib.hid (show atR ps h n = [] by unfold atR; rw [if_neg (by rw [hac]; decide)])
      rw [HR.out, hac]
      have hlo : ¬ (0 ≤ n ∧ n ≤ (h.length : Int)) := fun h9 => by rw [btw_true.2 h9] at hb; cases hb
      clear hz hp hh hm hb
      by_cases hn0 : n < 0
      · have hd : decide (n < 0) = true := decide_eq_true hn0
        go_enter Try.func15, Try.ntmps15
        go_wp2_with fail
        refine HV.out.mono ?_
        rintro e w1 ⟨rfl, hB⟩
        have HB := Lib.hid hB
        clear hB
        go_wp2_with fail
        go_ret2
        exact givesLinesE_nil HB.out
      · have hd : decide (n < 0) = false := decide_eq_false hn0
        have hd2 : (h.length : Int) < n := by omega
        go_enter Try.func15, Try.ntmps15
        go_wp2_with fail
        refine HV.out.mono ?_
        rintro e w1 ⟨rfl, hB⟩
        have HB := Lib.hid hB
        clear hB
        go_wp2_with fail
        go_ret2
        exact givesLinesE_nil HB.out
    · have hac : atC ps h n = 0 := by unfold atC; rw [if_pos hz, hb]; rfl
      obtain ⟨hlo, hhi⟩ := btw_true.1 hb
      obtain ⟨m, rfl⟩ : ∃ m : Nat, n = (m : Int) := ⟨n.toNat, by omega⟩
      have hml : m ≤ h.length := by omega
      have HR := Lib.hid (show atR ps h (m : Int) = plyF ps (h.take m) by unfold atR; rw [if_pos hac, Int.toNat_natCast])
      rw [HR.out, hac]
      have HH := Lib.hid hh
      have HL := Lib.hid hp
      have HF := Lib.hid (fun w => rFirst_any m w (by omega))
      have HP := Lib.hid (fun v cv w h1 h2 h3 => rPlay_any a g v ca cg cv ps h (List.range m) w h1 hc h2 h3 hp8 (by omega) (by rw [List.length_range]; omega) (rok_of hz (fun n hn => by have := List.mem_range.1 hn; omega)))
      rw [List.length_range, ← plyF_take ps h hml] at HP
      clear hz hp hh hm hb hac hc
      have hd : ¬ ((m : Int) < 0) := by omega
      have hd2 : ¬ ((h.length : Int) < (m : Int)) := by omega
      go_enter Try.func15, Try.ntmps15
      go_wp2_with fail
      refine HV.out.mono ?_
      rintro e w1 ⟨rfl, hB⟩
      have HB := Lib.hid hB
      clear hB
      go_wp2_with fail
      refine (HF.out _).mono ?_
      rintro e w2 ⟨a2, c2, rfl, ho, hB⟩
      have HI := Lib.hid (ints_of_own ho).1
      have HB2 := Lib.hid (HB.out.trans (hB.mono HB.out.size))
      clear ho hB
      rw [ints_len, List.length_range]
      go_wp2_with fail
      refine (HP.out _ _ _ (HL.out.below HB2.out (Nat.le_refl _)) (HH.out.below HB2.out (Nat.le_refl _)) HI.out).mono ?_
      intro e w3 hG
      obtain ⟨a3, c3, rfl, ho, hB3⟩ := hG.wide HB2.out
      have HO := Lib.hid ho
      have HB3 := Lib.hid hB3
      clear hG ho hB3
      go_wp2_with fail
      go_ret2
      exact ⟨a3, c3, rfl, HO.out, HB3.out⟩
  · have hac : atC ps h n = vst ps h := by unfold atC; rw [if_neg hz]
    have HR := Lib.hid (show atR ps h n = [] by unfold atR; rw [if_neg (by rw [hac]; exact hz)])
    rw [HR.out, hac]
    have hz1 : (vst ps h != 0) = true := by simpa using hz
    clear hz hp hh hm hac
    generalize vst ps h = c at HV hz1 ⊢
    go_enter Try.func15, Try.ntmps15
    go_wp2_with fail
    refine HV.out.mono ?_
    rintro e w1 ⟨rfl, hB⟩
    have HB := Lib.hid hB
    clear hB
    go_wp2_with fail
    go_ret2
    exact givesLinesE_nil HB.out

set_option maxRecDepth 100000 in
set_option maxHeartbeats 1000000 in
theorem stAt_any (a g : Option Addr) (ca cg : Nat) (ps : List L) (h : List (List E)) (n : Int) (w : World) (hp : LinesAt w a ps) (hh : RowsEAt w g h) (hpl : ps.length ≤ 1000) (hhl : h.length ≤ 1000) (hm : ∀ x ∈ h, x.length ≤ 1000) (hcg : h.length ≤ cg) :
    Calls Try.prog 14 #[.slice a ps.length ca, .slice g h.length cg, .int .i64 n] w (GivesLinesE (atR ps h n) (atC ps h n) w) := by
  have HV := Lib.hid (stVal_any a g ca cg ps h w hp hh hpl hhl hm)
  have HW := Lib.hid (fun w => isBetween_any n 0 (h.length : Int) w)
  by_cases hz : vst ps h = 0
  · have h8 := (vst_ok hz).2.1
    have hp8 := (vp_ok (vst_ok hz).1).1
    rw [hz] at HV
    cases hb : btw n 0 (h.length : Int)
    · have hac : atC ps h n = 1 := by unfold atC; rw [if_pos hz, hb]; rfl
      have HR := Lib.hid (show atR ps h n = [] by unfold atR; rw [if_neg (by rw [hac]; decide)])
      rw [HR.out, hac]
      rw [hb] at HW
      clear hz hp hh hm hb
      go_enter Try.func14, Try.ntmps14
      go_wp2_with fail
      refine HV.out.mono ?_
      rintro e w1 ⟨rfl, hB⟩
      have HB := Lib.hid hB
      clear hB
      go_wp2_with fail
      refine (HW.out _).mono ?_
      rintro e w2 ⟨rfl, rfl⟩
      go_wp2_with fail
      go_ret2
      exact givesLinesE_nil HB.out
    · have hac : atC ps h n = 0 := by unfold atC; rw [if_pos hz, hb]; rfl
      obtain ⟨hlo, hhi⟩ := btw_true.1 hb
      obtain ⟨m, rfl⟩ : ∃ m : Nat, n = (m : Int) := ⟨n.toNat, by omega⟩
      have hml : m ≤ h.length := by omega
      have HR := Lib.hid (show atR ps h (m : Int) = plyF ps (h.take m) by unfold atR; rw [if_pos hac, Int.toNat_natCast])
      rw [HR.out, hac]
      have HH := Lib.hid hh
      have HL := Lib.hid hp
      have HP := Lib.hid (fun w h1 h2 => hAt_any g a cg ca h ps m w h1 h2 (okZ_of hz) h8 hcg hml)
      rw [hb] at HW
      clear hz hp hh hm hb hac
      go_enter Try.func14, Try.ntmps14
      go_wp2_with fail
      refine HV.out.mono ?_
      rintro e w1 ⟨rfl, hB⟩
      have HB := Lib.hid hB
      clear hB
      go_wp2_with fail
      refine (HW.out _).mono ?_
      rintro e w2 ⟨rfl, rfl⟩
      go_wp2_with fail
      refine (HP.out _ (HH.out.below HB.out (Nat.le_refl _)) (HL.out.below HB.out (Nat.le_refl _))).mono ?_
      intro e w3 hG
      obtain ⟨a3, c3, rfl, ho, hB3⟩ := hG.wide HB.out
      have HO := Lib.hid ho
      have HB3 := Lib.hid hB3
      clear hG ho hB3
      go_wp2_with fail
      go_ret2
      exact ⟨a3, c3, rfl, HO.out, HB3.out⟩
  · have hac : atC ps h n = vst ps h := by unfold atC; rw [if_neg hz]
    have HR := Lib.hid (show atR ps h n = [] by unfold atR; rw [if_neg (by rw [hac]; exact hz)])
    rw [HR.out, hac]
    have hz1 : (vst ps h != 0) = true := by simpa using hz
    clear hz hp hh hm hac
    generalize vst ps h = c at HV hz1 ⊢
    go_enter Try.func14, Try.ntmps14
    go_wp2_with fail
    refine HV.out.mono ?_
    rintro e w1 ⟨rfl, hB⟩
    have HB := Lib.hid hB
    clear hB
    go_wp2_with fail
    go_ret2
    exact givesLinesE_nil HB.out

end Go.Proofs.Ytikblaebfpdngaa

/- touch, repair, Direct of the document (tinkerref07): contracts. -/
set_option linter.unusedVariables false
set_option linter.unusedSimpArgs false
namespace Go.Proofs.Ytikblaebfpdngaa
open Go.RowKit Tinker

theorem below_drewNH (w : World) (n : Nat) : Below w.heap.size w (w.drewN n) := ⟨rfl, rfl, rfl, Nat.le_refl _, fun _ _ => rfl⟩
theorem touH_no {x y : List E} {i j : Nat} {a b : E} (hx : x[i]? = some a) (hy : y[j]? = some b) (e : a.at_ = b.at_) : touH x y = true := touH_iff.2 ⟨a, mem_of_get hx, b, mem_of_get hy, e⟩

set_option maxRecDepth 100000 in
set_option maxHeartbeats 2000000 in
theorem rTouch_any (a b : Option Addr) (ca cb : Nat) (xs ys : List E) (w : World) (hx : EditsAt w a xs) (hy : EditsAt w b ys) (hm : xs.length ≤ 1000) (hn : ys.length ≤ 1000) :
    Calls Try.prog 49 #[.slice a xs.length ca, .slice b ys.length cb] w fun e w' => e = .returned (.bool (touH xs ys)) ∧ Below w.heap.size w w' := by
  have HX := Lib.hid hx
  have HY := Lib.hid hy
  clear hx hy
  go_enter Try.func49, Try.ntmps49
  go_wp2_with fail
  go_loopw [5] (fun s5 wr => ∃ i : Nat, i ≤ xs.length ∧ s5 = .int .i64 i ∧ (xs.take i).any (fun x => ys.any fun y => x.at_ == y.at_) = false ∧ Below w.heap.size w wr) (fun s5 _ => xs.length - (intOf s5).toNat)
  case atStart => exact ⟨0, Nat.zero_le _, rfl, by simp, Below.refl _ _⟩
  case round =>
    obtain ⟨i, hi, rfl, hall, hB⟩ := hrel
    have HA := Lib.hid hall
    have HB := Lib.hid hB
    clear hall hB
    by_cases hlt : i < xs.length
    · obtain ⟨bx, ox, x, rfl, hlx, hxi, c0, c1, c2, c3, c4⟩ := HX.out.at_ hlt
      have HXI := Lib.hid hxi
      obtain ⟨wo, hwo⟩ : ∃ wo, wo = wr := ⟨_, rfl⟩
      rw [← hwo] at HB ⊢
      clear hxi c1 c2 c3 c4 hwo
      go_wp2_with fail
      go_loopw [6] (fun s6 wx => ∃ j : Nat, j ≤ ys.length ∧ s6 = .int .i64 j ∧ (ys.take j).any (fun y => x.at_ == y.at_) = false ∧ Below w.heap.size w wx) (fun s6 _ => ys.length - (intOf s6).toNat)
      case atStart => exact ⟨0, Nat.zero_le _, rfl, by simp, HB.out⟩
      case round =>
        obtain ⟨j, hj, rfl, hall, hB⟩ := hrel
        have HA2 := Lib.hid hall
        have HBX := Lib.hid hB
        clear hall hB
        by_cases hlj : j < ys.length
        · obtain ⟨b2, o2, y, rfl, hly, hyj, d0, d1, d2, d3, d4⟩ := HY.out.at_ hlj
          have HYJ := Lib.hid hyj
          have x0 := (HBX.out.cell (p := ⟨bx, _, none⟩) hlx).trans c0
          have y0 := (HBX.out.cell (p := ⟨b2, _, none⟩) hly).trans d0
          have j0 : (0 : Int) ≤ (i : Int) := by omega
          have j1 : (i : Int) < (xs.length : Int) := by omega
          have j2 : (0 : Int) ≤ (j : Int) := by omega
          have j3 : (j : Int) < (ys.length : Int) := by omega
          clear hyj d0 d1 d2 d3 d4
          obtain ⟨I, hI⟩ : ∃ I, (x.at_ == y.at_) = I := ⟨_, rfl⟩
          have HI := Lib.hid hI
          cases I
          · have HN := Lib.hid (show (ys.take (j + 1)).any (fun y => x.at_ == y.at_) = false by rw [List.take_add_one, HYJ.out, List.any_append, HA2.out]; simp [HI.out])
            go_wp2_with fail
            go_quiet (fail)
            generalize hwd : World.drewN _ _ = wd
            have HBD := Lib.hid (show Below w.heap.size w wd from by rw [← hwd]; exact HBX.out.trans ((below_drewNH wr _).mono HBX.out.size))
            clear x0 y0 hwd
            go_wp2_with fail
            go_roundw
            case rel => exact ⟨j + 1, by omega, by go_num, HN.out, HBD.out⟩
            case measure => simp [intOf]; omega
          · have HN := Lib.hid (touH_no HXI.out HYJ.out (by simpa using HI.out))
            go_wp2_with fail
            go_quiet (fail)
            generalize hwd : World.drewN _ _ = wd
            have HBD := Lib.hid (show Below w.heap.size w wd from by rw [← hwd]; exact HBX.out.trans ((below_drewNH wr _).mono HBX.out.size))
            clear x0 y0 hwd
            go_wp2_with fail
            go_ret
            exact ⟨ret_bool HN.out.symm, HBD.out⟩
        · have HN := Lib.hid (show (xs.take (i + 1)).any (fun x => ys.any fun y => x.at_ == y.at_) = false by
            have h9 := HA2.out
            rw [List.take_of_length_le (by omega)] at h9
            rw [List.take_add_one, HXI.out, List.any_append, HA.out]
            simp only [Option.toList, List.any_cons, h9, List.any_nil]
            rfl)
          go_wp2_with fail
          go_roundw
          case rel => exact ⟨i + 1, by omega, by go_num, HN.out, HBX.out⟩
          case measure => simp [intOf]; omega
    · have HN := Lib.hid (show touH xs ys = false by have h9 := HA.out; rw [List.take_of_length_le (by omega)] at h9; exact h9)
      go_wp2_with fail
      go_ret
      exact ⟨ret_bool HN.out.symm, HB.out⟩

set_option maxRecDepth 100000 in
set_option maxHeartbeats 1000000 in
theorem rNum_any (a g : Option Addr) (ca cg : Nat) (ps : List L) (h : List (List E)) (n : Int) (w : World) (hp : LinesAt w a ps) (hh : RowsEAt w g h) (hpl : ps.length ≤ 1000) (hhl : h.length ≤ 1000) (hm : ∀ x ∈ h, x.length ≤ 1000) :
    Calls Try.prog 48 #[.slice a ps.length ca, .slice g h.length cg, .int .i64 n] w fun e w' => e = .returned (.int .i64 (vnC ps h n)) ∧ Below w.heap.size w w' := by
  have HV := Lib.hid (rHval_any a g ca cg ps h w hp hh hpl hhl hm)
  by_cases hz : vst ps h = 0
  · rw [hz] at HV
    by_cases h0 : n < 0
    · have HR := Lib.hid (show vnC ps h n = 4 by unfold vnC; rw [if_pos hz, if_neg]; intro h9; have := btw_true.1 h9; omega)
      rw [HR.out]
      have hd : decide (n < 0) = true := decide_eq_true h0
      clear hz hp hh hm
      go_enter Try.func48, Try.ntmps48
      go_wp2_with fail
      refine HV.out.mono ?_
      rintro e w1 ⟨rfl, hB⟩
      go_wp2_with fail
      go_ret
      exact ⟨rfl, hB⟩
    · by_cases h1 : (h.length : Int) ≤ n
      · have HR := Lib.hid (show vnC ps h n = 4 by unfold vnC; rw [if_pos hz, if_neg]; intro h9; have := btw_true.1 h9; omega)
        rw [HR.out]
        have hd : decide (n < 0) = false := decide_eq_false h0
        clear hz hp hh hm
        go_enter Try.func48, Try.ntmps48
        go_wp2_with fail
        refine HV.out.mono ?_
        rintro e w1 ⟨rfl, hB⟩
        go_wp2_with fail
        go_ret
        exact ⟨rfl, hB⟩
      · have HR := Lib.hid (show vnC ps h n = 0 by unfold vnC; rw [if_pos hz, if_pos (btw_true.2 ⟨by omega, by omega⟩)])
        rw [HR.out]
        have hd : decide (n < 0) = false := decide_eq_false h0
        clear hz hp hh hm
        go_enter Try.func48, Try.ntmps48
        go_wp2_with fail
        refine HV.out.mono ?_
        rintro e w1 ⟨rfl, hB⟩
        go_wp2_with fail
        go_ret
        exact ⟨rfl, hB⟩
  · have HR := Lib.hid (show vnC ps h n = vst ps h by unfold vnC; rw [if_neg hz])
    rw [HR.out]
    have hz1 : (vst ps h != 0) = true := by simpa using hz
    clear hz hp hh hm
    generalize vst ps h = c at HV hz1 ⊢
    go_enter Try.func48, Try.ntmps48
    go_wp2_with fail
    refine HV.out.mono ?_
    rintro e w1 ⟨rfl, hB⟩
    go_wp2_with fail
    go_ret
    exact ⟨rfl, hB⟩

set_option maxRecDepth 100000 in
set_option maxHeartbeats 2000000 in
theorem rDirect_any (a g : Option Addr) (ca cg : Nat) (ps : List L) (h : List (List E)) (n : Int) (w : World) (hp : LinesAt w a ps) (hh : RowsEAt w g h) (hpl : ps.length ≤ 1000) (hhl : h.length ≤ 1000) (hm : ∀ x ∈ h, x.length ≤ 1000) :
    Calls Try.prog 20 #[.slice a ps.length ca, .slice g h.length cg, .int .i64 n] w (GivesIntsE (if vnC ps h n = 0 then ints (dirN h n.toNat) else []) (vnC ps h n) w) := by
  have HV := Lib.hid (rNum_any a g ca cg ps h n w hp hh hpl hhl hm)
  by_cases hz : vnC ps h n = 0
  · rw [if_pos hz, hz]
    rw [hz] at HV
    obtain ⟨i0, hi, hz0, hz1, hz2⟩ := info_parts info_int
    have hb : 0 ≤ n ∧ n < (h.length : Int) := by
      unfold vnC at hz
      split at hz
      · split at hz
        · have := btw_true.1 (by assumption); omega
        · cases hz
      · exact absurd hz (by assumption)
    obtain ⟨m, rfl⟩ : ∃ m : Nat, n = (m : Int) := ⟨n.toNat, by omega⟩
    have hml : m < h.length := by omega
    have HH := Lib.hid hh
    have HM := Lib.hid hm
    rw [Int.toNat_natCast]
    obtain ⟨p, hpe⟩ : ∃ p : Nat → Bool, p = fun k => touH (rpA h k) (rpA h m) := ⟨_, rfl⟩
    have HPE := Lib.hid hpe
    have HRS := Lib.hid (show dirN h m = (List.range m).filter p by rw [hpe]; rfl)
    rw [HRS.out]
    clear hz hp hh hm hb hpe
    go_enter Try.func20, Try.ntmps20
    go_wp2_with fail
    refine HV.out.mono ?_
    rintro e w1 ⟨rfl, hB⟩
    have HB := Lib.hid hB
    clear hB
    go_wp2_with fail
    go_loopw [9, 10] (fun s9 s10 wr => ∃ k : Nat, k ≤ m ∧ s10 = .int .i64 k ∧ wr.ownsRow w.heap.size 3 1 s9 (ints ((List.range k).filter p)).length ((ints ((List.range k).filter p)).map (Value.int .i64)) ∧ Below w.heap.size w wr) (fun _ s10 _ => m - (intOf s10).toNat)
    case atStart => exact ⟨0, Nat.zero_le _, rfl, World.ownsRow_nil _ _ _ _, HB.out⟩
    case round =>
      obtain ⟨k, hk, rfl, hown, hB⟩ := hrel
      have HO := Lib.hid hown
      have HB := Lib.hid hB
      clear hown hB
      by_cases hlt : k < m
      · obtain ⟨b, off, x, y, ax, cx, ay, cy, rfl, hlb, hx, hy, c0, hxe, c1, hye⟩ := (HH.out.below HB.out (Nat.le_refl _)).two (k := k) (n := m) (by omega) hml
        have j0 : (0 : Int) ≤ (k : Int) := by omega
        have j1 : (k : Int) < (h.length : Int) := by omega
        have j2 : (0 : Int) ≤ (m : Int) := by omega
        have j3 : (m : Int) < (h.length : Int) := by omega
        have HXE := Lib.hid hxe
        have HYE := Lib.hid hye
        have hxl : x.length ≤ 1000 := HM.out x (mem_of_get hx)
        have hyl : y.length ≤ 1000 := HM.out y (mem_of_get hy)
        have hpk : p k = touH y x := by rw [HPE.out]; show touH (rpA h k) (rpA h m) = _; rw [rpA_at hx, rpA_at hy, touH_comm]
        obtain ⟨I, hI⟩ : ∃ I, touH y x = I := ⟨_, rfl⟩
        have HC := Lib.hid (fun W h1 h2 => rTouch_any ay ax cy cx y x W h1 h2 hyl hxl)
        rw [hI] at HC
        have HPK := Lib.hid (hpk.trans hI)
        clear hx hy hxe hye hpk hI
        go_upto_region 8 with fail
        go_cut [31] (fun s31 wx => s31 = .bool I ∧ Below wr.heap.size wr wx)
        case first =>
          go_region_held3 (fun w' => w'.cell? ⟨b, off + k, none⟩ = some (.slice ax x.length cx) ∧ w'.cell? ⟨b, off + m, none⟩ = some (.slice ay y.length cy)) (first | exact ⟨c0, c1⟩ | exact ⟨(hBa.cell (p := ⟨b, _, none⟩) hlb).trans c0, (hBa.cell (p := ⟨b, _, none⟩) hlb).trans c1⟩ | go_keep) ((go_at_call 49; refine (HC.out _ (HYE.out.below (Below.refl _ _).drew (Nat.le_refl _)) (HXE.out.below (Below.refl _ _).drew (Nat.le_refl _))).mono ?_; rintro e wa ⟨rfl, hBa⟩))
          all_goals go_wp2_with fail
          all_goals go_meet
          all_goals exact ⟨rfl, (Below.refl _ _).drew.trans (hBa.mono (Nat.le_refl _))⟩
        case rest =>
        obtain ⟨rfl, hbd⟩ := hcut
        rename_i wc
        have HO2 := Lib.hid (own_below HO.out hbd (Nat.le_refl _))
        have HB2 := Lib.hid (HB.out.trans (hbd.mono HB.out.size))
        have hlen := flt_len p k
        clear hbd HO HB c0 c1 hlb HXE HYE HC
        cases I
        · have HN := Lib.hid (flt_no HPK.out)
          go_wp2_with fail
          go_roundw
          case rel => exact ⟨k + 1, by omega, by go_num, by rw [HN.out]; exact HO2.out, HB2.out⟩
          case measure => simp [intOf]; omega
        · have HN := Lib.hid (flt_yes HPK.out)
          go_wp2_with (at_builtin; refine wpList_append_own _ rfl (.tmp 32) (.tmp 34) 35 rfl w.heap.size 3 i0 (.int .i64 0) 1 8 Try.underlying35 hi hz0 hz1 hz2 rfl (by decide) _ _ _ rfl (HO2.out.alloc _) ⟨wc.heap.size, 0, none⟩ 1 1 [.int .i64 k] rfl rfl ?c1 ?c2 ?c3 ?c4 ?c5 ?_)
          case c1 => exact cell_one_new _ _ _
          case c2 => simp [Value.oneCell']
          case c3 => unfold maxLen; omega
          case c4 => omega
          case c5 => have := HB2.out.size; simp; omega
          intro v' w1 hown' hgrow _
          have hB1 : Below w.heap.size w w1 := (HB2.out.alloc HB2.out.size _).grown hgrow (by have := HB2.out.size; simp; omega) (own_base HO2.out)
          have e : (ints ((List.range k).filter p)).map (Value.int .i64) ++ [.int .i64 k] = (ints ((List.range (k + 1)).filter p)).map (Value.int .i64) := by rw [HN.out]; simp
          have e2 : (ints ((List.range k).filter p)).length + 1 = (ints ((List.range (k + 1)).filter p)).length := by rw [HN.out]; simp
          rw [e, e2] at hown'
          have HO3 := Lib.hid hown'
          have HB3 := Lib.hid hB1
          clear hown' hgrow e e2 hB1 HO2 HB2
          go_wp2_with fail
          go_roundw
          case rel => exact ⟨k + 1, by omega, by go_num, HO3.out, HB3.out⟩
          case measure => simp [intOf]; omega
      · obtain rfl : k = m := by omega
        have hO9 := HO.out
        obtain ⟨av, cv, rfl⟩ := own_slice hO9
        clear hO9
        go_wp2_with fail
        go_ret2
        exact ⟨av, cv, rfl, HO.out, HB.out⟩
  · rw [if_neg hz]
    have hz1 : (vnC ps h n != 0) = true := by simpa using hz
    clear hz hp hh hm
    generalize vnC ps h n = c at HV hz1 ⊢
    go_enter Try.func20, Try.ntmps20
    go_wp2_with fail
    refine HV.out.mono ?_
    rintro e w1 ⟨rfl, hB⟩
    have HB := Lib.hid hB
    clear hB
    go_wp2_with fail
    go_ret2
    exact givesIntsE_nil HB.out

end Go.Proofs.Ytikblaebfpdngaa

/- The table of needs of the document (tinkerref07.needs): contract. -/
set_option linter.unusedVariables false
set_option linter.unusedSimpArgs false
namespace Tinker
/-- A row of the table of needs, so far: with what the first k repairs give. -/
def rowK (h : List (List E)) (i k m : Nat) : Bool := (List.range k).any fun d => touH (rpA h i) (rpA h d) && (d == m || ndB h d m)
theorem rowK_0 (h : List (List E)) (i m : Nat) : rowK h i 0 m = false := rfl
theorem rowK_all (h : List (List E)) (i m : Nat) : rowK h i i m = ndB h i m := (ndB_eq h i m).symm
theorem rowK_no {h : List (List E)} {i k : Nat} (ht : touH (rpA h i) (rpA h k) = false) (m : Nat) : rowK h i (k + 1) m = rowK h i k m := by
  unfold rowK
  rw [List.range_succ, List.any_append]
  simp [ht]
theorem rowK_yes {h : List (List E)} {i k : Nat} (ht : touH (rpA h i) (rpA h k) = true) (m : Nat) : rowK h i (k + 1) m = (rowK h i k m || (k == m || ndB h k m)) := by
  unfold rowK
  rw [List.range_succ, List.any_append]
  simp [ht]
/-- .. and with the first m that the repair k needs. -/
def rowM (h : List (List E)) (i k m x : Nat) : Bool := rowK h i k x || (k == x || (decide (x < m) && ndB h k x))
theorem rowM_all {h : List (List E)} {i k : Nat} (ht : touH (rpA h i) (rpA h k) = true) (x : Nat) : rowM h i k k x = rowK h i (k + 1) x := by
  rw [rowK_yes ht]
  unfold rowM
  cases e : ndB h k x with
  | false => simp
  | true => rw [decide_eq_true (ndB_lt k e)]; simp
def bL (p : Nat → Bool) (n : Nat) : List Bool := (List.range n).map p
theorem bL_len (p : Nat → Bool) (n : Nat) : (bL p n).length = n := by simp [bL]
theorem bL_get (p : Nat → Bool) {n i : Nat} (hi : i < n) : (bL p n).getD i false = p i := by
  unfold bL
  rw [List.getD_eq_getElem?_getD, List.getElem?_map, List.getElem?_range hi]
  rfl
theorem bL_eq {p q : Nat → Bool} {n : Nat} (e : ∀ i, i < n → p i = q i) : bL p n = bL q n := by
  unfold bL
  exact List.map_congr_left fun i hi => e i (List.mem_range.1 hi)
theorem bL_rep (n : Nat) : bL (fun _ => false) n = List.replicate n false := by
  unfold bL
  rw [List.map_const', List.length_range]
theorem bL_put (p : Nat → Bool) (n k : Nat) (b : Bool) : (bL p n).set k b = bL (fun i => if i = k then b else p i) n := by
  refine List.ext_getElem? fun i => ?_
  unfold bL
  rcases Nat.lt_or_ge i n with h | h
  · rw [List.getElem?_set, List.getElem?_map, List.getElem?_map, List.getElem?_range h]
    by_cases hk : k = i
    · subst hk
      rw [if_pos rfl, if_pos (by simpa using h)]
      simp
    · rw [if_neg hk]
      simp [show i ≠ k from fun e => hk e.symm]
  · rw [List.getElem?_eq_none (by simpa using h), List.getElem?_eq_none (by simpa using h)]
theorem rowM_0 (h : List (List E)) (i k n : Nat) : (bL (rowK h i k) n).set k true = bL (rowM h i k 0) n := by
  rw [bL_put]
  refine bL_eq fun x _ => ?_
  unfold rowM
  by_cases hx : x = k
  · subst hx; simp
  · have : (k == x) = false := by simpa using fun e => hx e.symm
    simp [hx, this]
theorem rowM_put (h : List (List E)) (i k m n : Nat) : (bL (rowM h i k m) n).set m (rowM h i k m m || ndB h k m) = bL (rowM h i k (m + 1)) n := by
  rw [bL_put]
  refine bL_eq fun x _ => ?_
  unfold rowM
  by_cases hx : x = m
  · subst hx
    cases rowK h i k x <;> cases (k == x) <;> cases ndB h k x <;> simp
  · have : decide (x < m + 1) = decide (x < m) := by rw [decide_eq_decide]; omega
    simp [hx, this]
end Tinker
namespace Go.Proofs.Ytikblaebfpdngaa
open Go.RowKit Go.Shelf Tinker
attribute [local go_sem] Oper.semAt_some

def nilRows (n : Nat) : Array Value := (List.replicate n (Value.slice none 0 0)).toArray
theorem mkRB0 (w : World) : (Instr.makeSlice 68 (.int .i64 0) (.int .i64 0)).run Try.prog w = .ok (.slice (some ⟨w.heap.size, 0, none⟩) 0 0) (w.alloc (.cells (nilRows 0) 70)) := by kernel_rfl
theorem mkRB1 (w : World) : (Instr.makeSlice 68 (.int .i64 1) (.int .i64 1)).run Try.prog w = .ok (.slice (some ⟨w.heap.size, 0, none⟩) 1 1) (w.alloc (.cells (nilRows 1) 70)) := by kernel_rfl
theorem mkRB2 (w : World) : (Instr.makeSlice 68 (.int .i64 2) (.int .i64 2)).run Try.prog w = .ok (.slice (some ⟨w.heap.size, 0, none⟩) 2 2) (w.alloc (.cells (nilRows 2) 70)) := by kernel_rfl
theorem mkRB3 (w : World) : (Instr.makeSlice 68 (.int .i64 3) (.int .i64 3)).run Try.prog w = .ok (.slice (some ⟨w.heap.size, 0, none⟩) 3 3) (w.alloc (.cells (nilRows 3) 70)) := by kernel_rfl
theorem mkRB4 (w : World) : (Instr.makeSlice 68 (.int .i64 4) (.int .i64 4)).run Try.prog w = .ok (.slice (some ⟨w.heap.size, 0, none⟩) 4 4) (w.alloc (.cells (nilRows 4) 70)) := by kernel_rfl
theorem mkRB5 (w : World) : (Instr.makeSlice 68 (.int .i64 5) (.int .i64 5)).run Try.prog w = .ok (.slice (some ⟨w.heap.size, 0, none⟩) 5 5) (w.alloc (.cells (nilRows 5) 70)) := by kernel_rfl
theorem mkRB6 (w : World) : (Instr.makeSlice 68 (.int .i64 6) (.int .i64 6)).run Try.prog w = .ok (.slice (some ⟨w.heap.size, 0, none⟩) 6 6) (w.alloc (.cells (nilRows 6) 70)) := by kernel_rfl
theorem mkRB7 (w : World) : (Instr.makeSlice 68 (.int .i64 7) (.int .i64 7)).run Try.prog w = .ok (.slice (some ⟨w.heap.size, 0, none⟩) 7 7) (w.alloc (.cells (nilRows 7) 70)) := by kernel_rfl
theorem mkRB8 (w : World) : (Instr.makeSlice 68 (.int .i64 8) (.int .i64 8)).run Try.prog w = .ok (.slice (some ⟨w.heap.size, 0, none⟩) 8 8) (w.alloc (.cells (nilRows 8) 70)) := by kernel_rfl
theorem mkRowsB (n : Nat) (hn : n ≤ 8) (w : World) : (Instr.makeSlice 68 (.int .i64 (n : Int)) (.int .i64 (n : Int))).run Try.prog w = .ok (.slice (some ⟨w.heap.size, 0, none⟩) n n) (w.alloc (.cells (nilRows n) 70)) := by
  have c : n = 0 ∨ n = 1 ∨ n = 2 ∨ n = 3 ∨ n = 4 ∨ n = 5 ∨ n = 6 ∨ n = 7 ∨ n = 8 := by omega
  rcases c with rfl | rfl | rfl | rfl | rfl | rfl | rfl | rfl | rfl
  · exact mkRB0 w
  · exact mkRB1 w
  · exact mkRB2 w
  · exact mkRB3 w
  · exact mkRB4 w
  · exact mkRB5 w
  · exact mkRB6 w
  · exact mkRB7 w
  · exact mkRB8 w

/-- A table in memory. -/
def MatAt (W : World) (a : Option Addr) (n : Nat) (p : Nat → Nat → Bool) : Prop := n = 0 ∨ ∃ b, a = some ⟨b, 0, none⟩ ∧ b < W.heap.size ∧ ∀ i, i < n → ∃ g c, W.cell? ⟨b, i, none⟩ = some (.slice (some ⟨g, 0, none⟩) n c) ∧ g < W.heap.size ∧ ∀ j, j < n → W.cell? ⟨g, j, none⟩ = some (.bool (p i j))
theorem MatAt.below {W W' : World} {a : Option Addr} {n : Nat} {p : Nat → Nat → Bool} (h : MatAt W a n p) (hb : Below W.heap.size W W') : MatAt W' a n p := by
  rcases h with h | ⟨b, e, hl, hc⟩
  · exact .inl h
  · refine .inr ⟨b, e, Nat.lt_of_lt_of_le hl hb.size, fun i hi => ?_⟩
    obtain ⟨g, c, h1, h2, h3⟩ := hc i hi
    exact ⟨g, c, (hb.cell (p := ⟨b, i, none⟩) hl).trans h1, Nat.lt_of_lt_of_le h2 hb.size, fun j hj => (hb.cell (p := ⟨g, j, none⟩) h2).trans (h3 j hj)⟩
/-- The table so far: its first i rows. -/
structure NdI (M n : Nat) (h : List (List E)) (i : Nat) (cs : List Value) (W : World) : Prop where
  bm : W.heap[M]? = some (.cells cs.toArray 70 (0, 0))
  len : cs.length = n
  rows : ∀ j, j < i → ∃ g, cs[j]? = some (.slice (some ⟨g, 0, none⟩) n n) ∧ M < g ∧ W.heap[g]? = some (.cells (bv (bL (ndB h j) n)) 4 (0, 0))
theorem NdI.low {M n : Nat} {h : List (List E)} {i : Nat} {cs : List Value} {W W' : World} (hI : NdI M n h i cs W) (hb : Below W.heap.size W W') : NdI M n h i cs W' :=
  ⟨hp_below hI.bm hb (hp_lt hI.bm), hI.len, fun j hj => by
    obtain ⟨g, h1, h2, h3⟩ := hI.rows j hj
    exact ⟨g, h1, h2, hp_below h3 hb (hp_lt h3)⟩⟩
theorem NdI.off {M n : Nat} {h : List (List E)} {i : Nat} {cs : List Value} {W W' : World} {q : Nat} (hI : NdI M n h i cs W) (ho : Off q W W') (hM : M ≠ q) (hq : ∀ j g, j < i → cs[j]? = some (.slice (some ⟨g, 0, none⟩) n n) → g ≠ q) : NdI M n h i cs W' :=
  ⟨(ho.block M (hp_lt hI.bm) hM).trans hI.bm, hI.len, fun j hj => by
    obtain ⟨g, h1, h2, h3⟩ := hI.rows j hj
    exact ⟨g, h1, h2, (ho.block g (hp_lt h3) (hq j g hj h1)).trans h3⟩⟩
theorem NdI.mat {M n : Nat} {h : List (List E)} {cs : List Value} {W : World} (hI : NdI M n h n cs W) : MatAt W (some ⟨M, 0, none⟩) n (ndB h) :=
  .inr ⟨M, rfl, hp_lt hI.bm, fun i hi => by
    obtain ⟨g, h1, h2, h3⟩ := hI.rows i hi
    exact ⟨g, n, hp_cell hI.bm (by simpa using h1), hp_lt h3, fun j hj => by
      have := hp_cell h3 (bv_get (bL (ndB h i) n) j (by rw [bL_len]; exact hj))
      rwa [bL_get (ndB h i) hj] at this⟩⟩

set_option maxRecDepth 100000 in
set_option maxHeartbeats 8000000 in
theorem rNeeds_any (g : Option Addr) (cg : Nat) (h : List (List E)) (w : World) (hh : RowsEAt w g h) (h8 : h.length ≤ 8) (hm : ∀ x ∈ h, x.length ≤ 1000) :
    Calls Try.prog 51 #[.slice g h.length cg] w fun e w' => ∃ a, e = .returned (.slice a h.length h.length) ∧ MatAt w' a h.length (ndB h) ∧ Below w.heap.size w w' := by
  have hmr := mkRowsB h.length h8
  have hmb := mkBools h.length h8
  have HH := Lib.hid hh
  have HM := Lib.hid hm
  obtain ⟨M, hM⟩ : ∃ M, M = w.heap.size := ⟨_, rfl⟩
  have HMM := Lib.hid hM
  have HN0 := Lib.hid (show NdI M h.length h 0 (List.replicate h.length (.slice none 0 0)) (w.alloc (.cells (nilRows h.length) 70)) from ⟨by rw [hM]; exact heap_new _ _, by simp, fun j hj => by omega⟩)
  have HB0 := Lib.hid ((Below.refl w.heap.size w).alloc (Nat.le_refl _) (.cells (nilRows h.length) 70))
  clear hh hm
  go_enter Try.func51, Try.ntmps51
  go_upto_region 2 with fail
  rw [← hM]
  generalize w.alloc (.cells (nilRows h.length) 70) = w0 at *
  clear hmr hM
  go_wp2_with fail
  go_loopw [4] (fun s4 wr => ∃ (i : Nat) (cs : List Value), i ≤ h.length ∧ s4 = .int .i64 i ∧ NdI M h.length h i cs wr ∧ Below w.heap.size w wr) (fun s4 _ => h.length - (intOf s4).toNat)
  case atStart => exact ⟨0, _, Nat.zero_le _, rfl, HN0.out, HB0.out⟩
  case round =>
    clear HN0 HB0
    obtain ⟨i, cs0, hi, rfl, hI, hB⟩ := hrel
    have HI := Lib.hid hI
    have HB := Lib.hid hB
    clear hI hB
    by_cases hlt : i < h.length
    · have b0 := hp_free HI.out.bm i
      obtain ⟨v0, hv0⟩ := get_of_lt (show i < cs0.length by rw [HI.out.len]; exact hlt)
      have b1 := hp_cell HI.out.bm (j := i) (by simpa using hv0)
      have hMl := hp_lt HI.out.bm
      obtain ⟨G, hG⟩ : ∃ G, G = wr.heap.size := ⟨_, rfl⟩
      have HI1 := Lib.hid (show NdI M h.length h i (cs0.set i (.slice (some ⟨G, 0, none⟩) h.length h.length)) (wr.setCell ⟨M, i, none⟩ (.slice (some ⟨G, 0, none⟩) h.length h.length)) from by
        have hq := hp_put HI.out.bm i (.slice (some ⟨G, 0, none⟩) h.length h.length)
        refine ⟨by simpa using hq, by rw [List.length_set]; exact HI.out.len, fun j hj => ?_⟩
        obtain ⟨gg, q1, q2, q3⟩ := HI.out.rows j hj
        exact ⟨gg, by rw [List.getElem?_set_ne (by omega)]; exact q1, q2, hp_set q3 (by show gg ≠ M; omega) _⟩)
      have HB1 := Lib.hid (HB.out.setCell (p := ⟨M, i, none⟩) (by show w.heap.size ≤ M; rw [HMM.out]; exact Nat.le_refl _) (.slice (some ⟨G, 0, none⟩) h.length h.length))
      have hsz : (wr.setCell ⟨M, i, none⟩ (.slice (some ⟨G, 0, none⟩) h.length h.length)).heap.size = G := by rw [hG]; simp
      have hal : Below (wr.setCell ⟨M, i, none⟩ (.slice (some ⟨G, 0, none⟩) h.length h.length)).heap.size _ ((wr.setCell ⟨M, i, none⟩ (.slice (some ⟨G, 0, none⟩) h.length h.length)).alloc (.cells (bv (List.replicate h.length false)) 4)) := (Below.refl _ _).alloc (Nat.le_refl _) _
      have HIs := Lib.hid (HI1.out.low hal)
      have HBs := Lib.hid (HB1.out.trans (hal.mono HB1.out.size))
      have HGs := Lib.hid (show ((wr.setCell ⟨M, i, none⟩ (.slice (some ⟨G, 0, none⟩) h.length h.length)).alloc (.cells (bv (List.replicate h.length false)) 4)).heap[G]? = some (.cells (bv (bL (rowK h i 0) h.length)) 4 (0, 0)) from by
        have : bL (rowK h i 0) h.length = List.replicate h.length false := by rw [← bL_rep]; exact bL_eq fun x _ => rowK_0 h i x
        rw [this]
        exact hp_new hsz)
      have HCI := Lib.hid (show (cs0.set i (.slice (some ⟨G, 0, none⟩) h.length h.length))[i]? = some (.slice (some ⟨G, 0, none⟩) h.length h.length) from List.getElem?_set_self (by rw [HI.out.len]; exact hlt))
      have HGR := Lib.hid (show ∀ j gg, j < i → (cs0.set i (Value.slice (some ⟨G, 0, none⟩) h.length h.length))[j]? = some (.slice (some ⟨gg, 0, none⟩) h.length h.length) → gg ≠ G from fun j gg hj hg9 => by
        rw [List.getElem?_set_ne (by omega)] at hg9
        obtain ⟨g2, q1, q2, q3⟩ := HI.out.rows j hj
        rw [q1] at hg9
        injection hg9 with hg9
        injection hg9 with hg9
        have := blk_inj hg9
        have := hp_lt q3
        omega)
      have hMG : M < G := by omega
      generalize cs0.set i (Value.slice (some ⟨G, 0, none⟩) h.length h.length) = cs at *
      go_upto_region 6 with fail
      try rw [← hG]
      generalize World.alloc _ _ = w1 at *
      clear b0 b1 hv0 hal hMl HI1 HB1 hsz hG HI HB
      go_wp2_with fail
      go_loopw [5] (fun s5 wr => ∃ k : Nat, k ≤ i ∧ s5 = .int .i64 k ∧ NdI M h.length h i cs wr ∧ wr.heap[G]? = some (.cells (bv (bL (rowK h i k) h.length)) 4 (0, 0)) ∧ Below w.heap.size w wr) (fun s5 _ => i - (intOf s5).toNat)
      case atStart => exact ⟨0, Nat.zero_le _, rfl, HIs.out, HGs.out, HBs.out⟩
      case round =>
        clear HIs HGs HBs
        obtain ⟨k, hk, rfl, hI, hG, hB⟩ := hrel
        have HI := Lib.hid hI
        have HB := Lib.hid hB
        have HG := Lib.hid hG
        clear hI hB hG
        by_cases hkl : k < i
        · obtain ⟨b, off, x, y, ax, cx, ay, cy, rfl, hlb, hx, hy, c0, hxe, c1, hye⟩ := (HH.out.below HB.out (Nat.le_refl _)).two (k := i) (n := k) hlt (by omega)
          have j0 : (0 : Int) ≤ (k : Int) := by omega
          have j1 : (k : Int) < (h.length : Int) := by omega
          have j2 : (0 : Int) ≤ (i : Int) := by omega
          have j3 : (i : Int) < (h.length : Int) := by omega
          have HXE := Lib.hid hxe
          have HYE := Lib.hid hye
          have hxl : x.length ≤ 1000 := HM.out x (mem_of_get hx)
          have hyl : y.length ≤ 1000 := HM.out y (mem_of_get hy)
          have hpk : touH (rpA h i) (rpA h k) = touH x y := by rw [rpA_at hx, rpA_at hy]
          obtain ⟨I, hI⟩ : ∃ I, touH x y = I := ⟨_, rfl⟩
          have HC := Lib.hid (fun W h1 h2 => rTouch_any ax ay cx cy x y W h1 h2 hxl hyl)
          rw [hI] at HC
          have HPK := Lib.hid (hpk.trans hI)
          clear hx hy hxe hye hpk hI
          go_upto_region 9 with fail
          go_cut [36] (fun s36 wy => s36 = .bool (!I) ∧ Below wr.heap.size wr wy)
          case first =>
            go_region_held3 (fun w' => w'.cell? ⟨b, off + i, none⟩ = some (.slice ax x.length cx) ∧ w'.cell? ⟨b, off + k, none⟩ = some (.slice ay y.length cy)) (first | exact ⟨c0, c1⟩ | exact ⟨(hBa.cell (p := ⟨b, _, none⟩) hlb).trans c0, (hBa.cell (p := ⟨b, _, none⟩) hlb).trans c1⟩ | go_keep) ((go_at_call 49; refine (HC.out _ (HXE.out.below (Below.refl _ _).drew (Nat.le_refl _)) (HYE.out.below (Below.refl _ _).drew (Nat.le_refl _))).mono ?_; rintro e wa ⟨rfl, hBa⟩))
            all_goals go_wp2_with fail
            all_goals go_meet
            all_goals exact ⟨rfl, (Below.refl _ _).drew.trans (hBa.mono (Nat.le_refl _))⟩
          case rest =>
          obtain ⟨rfl, hbd⟩ := hcut
          rename_i wc
          have HI2 := Lib.hid (HI.out.low hbd)
          have HG2 := Lib.hid (hp_below HG.out hbd (hp_lt HG.out))
          have HB2 := Lib.hid (HB.out.trans (hbd.mono HB.out.size))
          clear hbd HI HG HB c0 c1 hlb HXE HYE HC hxl hyl
          cases I
          · have HN := Lib.hid (show bL (rowK h i (k + 1)) h.length = bL (rowK h i k) h.length from bL_eq fun x _ => rowK_no HPK.out x)
            simp only [Bool.not_false, Bool.not_true]
            go_wp2_with fail
            go_roundw
            case rel => exact ⟨k + 1, by omega, by go_num, HI2.out, by rw [HN.out]; exact HG2.out, HB2.out⟩
            case measure => simp [intOf]; omega
          · have HN := Lib.hid (show bL (rowM h i k k) h.length = bL (rowK h i (k + 1)) h.length from bL_eq fun x _ => rowM_all HPK.out x)
            have b0 := hp_cell HI2.out.bm (j := i) (by simpa using HCI.out)
            have b1 := hp_free HG2.out k
            have b2 := hp_cell HG2.out (bv_get (bL (rowK h i k) h.length) k (by rw [bL_len]; omega))
            obtain ⟨gk, hg1, hg2, hg3⟩ := HI2.out.rows k hkl
            have HCK := Lib.hid hg1
            have hgG := HGR.out k gk hkl hg1
            have HI3 := Lib.hid (HI2.out.off (Off.setCell G wc k (.bool true)) (by omega) HGR.out)
            have HK3 := Lib.hid (hp_set hg3 (p := ⟨G, k, none⟩) (by show gk ≠ G; omega) (.bool true))
            have HB3 := Lib.hid (HB2.out.setCell (p := ⟨G, k, none⟩) (by show w.heap.size ≤ G; have := HMM.out; omega) (.bool true))
            have HG3 := Lib.hid (show (wc.setCell ⟨G, k, none⟩ (.bool true)).heap[G]? = some (.cells (bv (bL (rowM h i k 0) h.length)) 4 (0, 0)) from by
              have q := hp_put HG2.out k (.bool true)
              rw [bv_set, rowM_0] at q
              exact q)
            clear hg1 hg3
            simp only [Bool.not_false, Bool.not_true]
            go_upto_region 11 with fail
            generalize World.setCell _ _ _ = w3 at *
            clear b0 b1 b2 HI2 HG2 HB2
            go_wp2_with fail
            go_loopw [6] (fun s6 wr => ∃ m : Nat, m ≤ k ∧ s6 = .int .i64 m ∧ NdI M h.length h i cs wr ∧ wr.heap[G]? = some (.cells (bv (bL (rowM h i k m) h.length)) 4 (0, 0)) ∧ Below w.heap.size w wr) (fun s6 _ => k - (intOf s6).toNat)
            case atStart => exact ⟨0, Nat.zero_le _, rfl, HI3.out, HG3.out, HB3.out⟩
            case round =>
              clear HI3 HG3 HB3 HK3
              obtain ⟨m, hm, rfl, hI, hG, hB⟩ := hrel
              have HIm := Lib.hid hI
              have HBm := Lib.hid hB
              have HGm := Lib.hid hG
              clear hI hB hG
              by_cases hml : m < k
              · have HGK := Lib.hid (show wr.heap[gk]? = some (.cells (bv (bL (ndB h k) h.length)) 4 (0, 0)) from by
                  obtain ⟨g2, q1, q2, q3⟩ := HIm.out.rows k hkl
                  rw [HCK.out] at q1
                  injection q1 with q1
                  injection q1 with q1
                  have := blk_inj q1
                  subst this
                  exact q3)
                have j4 : (0 : Int) ≤ (m : Int) := by omega
                have j5 : (m : Int) < (h.length : Int) := by omega
                obtain ⟨V, hVI⟩ : ∃ V, rowM h i k m m = V := ⟨_, rfl⟩
                obtain ⟨N, hVN⟩ : ∃ N, ndB h k m = N := ⟨_, rfl⟩
                go_upto_region 14 with fail
                cases V
                · refine wp_region_held_drew (S := (fun W2 => W2.heap[M]? = some (.cells cs.toArray 70 (0, 0)) ∧ W2.heap[gk]? = some (.cells (bv (bL (ndB h k) h.length)) 4 (0, 0)))) (by kernel_rfl) ?_ (fun hHeld => ?_)
                  · exact ⟨hp_drew HIm.out.bm, hp_drew HGK.out⟩
                  have HD1 := Lib.hid (hp_drew HGm.out)
                  have HD2 := Lib.hid (HIm.out.low (Below.refl _ _).drew)
                  have HD3 := Lib.hid (HBm.out.drew)
                  have HDK := Lib.hid (hp_drew HGK.out)
                  have d1 := hp_cell HD1.out (bv_get (bL (rowM h i k m) h.length) m (by rw [bL_len]; omega))
                  rw [bL_get _ (show m < h.length by omega), hVI] at d1
                  have d0 := hp_free HD1.out m
                  clear HGm HIm HBm HGK
                  generalize wr.drew = Wd at *
                  refine wpAnyH_take (i := 0) (oi := ?oiq1) (v := (.slice (some ⟨M, 0, none⟩) h.length h.length)) ?hiq1 (by kernel_rfl) (by kernel_rfl) (by kernel_rfl) ?hqq1 ?hyq1 hHeld ?restq1
                  case hiq1 => exact rfl
                  case hqq1 => exact fun _ _ _ h => h
                  case hyq1 =>
                    refine Or.inl ⟨by rfl, ?_⟩
                    intro w hSw
                    go_simp
                    (try with_reducible rfl)
                  try simp only [Act.put, List.getElem_toArray, List.getElem_cons_succ, List.getElem_cons_zero, List.setIfInBounds_toArray, List.set_cons_zero, List.set_cons_succ]
                  refine wpAnyH_take (i := 1) (oi := ?oiq2) (v := (.int .i64 i)) ?hiq2 (by kernel_rfl) (by kernel_rfl) (by kernel_rfl) ?hqq2 ?hyq2 hHeld ?restq2
                  case hiq2 => exact rfl
                  case hqq2 => exact fun _ _ _ h => h
                  case hyq2 =>
                    refine Or.inl ⟨by rfl, ?_⟩
                    intro w hSw
                    go_simp
                    (try with_reducible rfl)
                  try simp only [Act.put, List.getElem_toArray, List.getElem_cons_succ, List.getElem_cons_zero, List.setIfInBounds_toArray, List.set_cons_zero, List.set_cons_succ]
                  refine wpAnyH_take (i := 2) (oi := ?oiq3) (v := (.pointer (some ⟨M, i, none⟩))) ?hiq3 (by kernel_rfl) (by kernel_rfl) (by kernel_rfl) ?hqq3 ?hyq3 hHeld ?restq3
                  case hiq3 => exact rfl
                  case hqq3 => exact fun _ _ _ h => h
                  case hyq3 =>
                    refine Or.inl ⟨by rfl, ?_⟩
                    intro w hSw
                    go_simp
                    (try with_reducible rfl)
                  try simp only [Act.put, List.getElem_toArray, List.getElem_cons_succ, List.getElem_cons_zero, List.setIfInBounds_toArray, List.set_cons_zero, List.set_cons_succ]
                  refine wpAnyH_take (i := 3) (oi := ?oiq4) (v := (.slice (some ⟨G, 0, none⟩) h.length h.length)) ?hiq4 (by kernel_rfl) (by kernel_rfl) (by kernel_rfl) ?hqq4 ?hyq4 hHeld ?restq4
                  case hiq4 => exact rfl
                  case hqq4 => exact fun _ _ _ h => h
                  case hyq4 =>
                    refine Or.inl ⟨by rfl, ?_⟩
                    intro w hSw
                    have m0 := hp_cell hSw.1 (j := i) (by simpa using HCI.out)
                    go_simp
                    (try with_reducible rfl)
                  try simp only [Act.put, List.getElem_toArray, List.getElem_cons_succ, List.getElem_cons_zero, List.setIfInBounds_toArray, List.set_cons_zero, List.set_cons_succ]
                  refine wpAnyH_take (i := 4) (oi := ?oiq5) (v := (.int .i64 m)) ?hiq5 (by kernel_rfl) (by kernel_rfl) (by kernel_rfl) ?hqq5 ?hyq5 hHeld ?restq5
                  case hiq5 => exact rfl
                  case hqq5 => exact fun _ _ _ h => h
                  case hyq5 =>
                    refine Or.inl ⟨by rfl, ?_⟩
                    intro w hSw
                    go_simp
                    (try with_reducible rfl)
                  try simp only [Act.put, List.getElem_toArray, List.getElem_cons_succ, List.getElem_cons_zero, List.setIfInBounds_toArray, List.set_cons_zero, List.set_cons_succ]
                  refine wpAnyH_take (i := 5) (oi := ?oiq6) (v := (.slice (some ⟨M, 0, none⟩) h.length h.length)) ?hiq6 (by kernel_rfl) (by kernel_rfl) (by kernel_rfl) ?hqq6 ?hyq6 hHeld ?restq6
                  case hiq6 => exact rfl
                  case hqq6 => exact fun _ _ _ h => h
                  case hyq6 =>
                    refine Or.inl ⟨by rfl, ?_⟩
                    intro w hSw
                    go_simp
                    (try with_reducible rfl)
                  try simp only [Act.put, List.getElem_toArray, List.getElem_cons_succ, List.getElem_cons_zero, List.setIfInBounds_toArray, List.set_cons_zero, List.set_cons_succ]
                  refine wpAnyH_take (i := 6) (oi := ?oiq7) (v := (.int .i64 i)) ?hiq7 (by kernel_rfl) (by kernel_rfl) (by kernel_rfl) ?hqq7 ?hyq7 hHeld ?restq7
                  case hiq7 => exact rfl
                  case hqq7 => exact fun _ _ _ h => h
                  case hyq7 =>
                    refine Or.inl ⟨by rfl, ?_⟩
                    intro w hSw
                    go_simp
                    (try with_reducible rfl)
                  try simp only [Act.put, List.getElem_toArray, List.getElem_cons_succ, List.getElem_cons_zero, List.setIfInBounds_toArray, List.set_cons_zero, List.set_cons_succ]
                  refine wpAnyH_take (i := 7) (oi := ?oiq8) (v := (.pointer (some ⟨M, i, none⟩))) ?hiq8 (by kernel_rfl) (by kernel_rfl) (by kernel_rfl) ?hqq8 ?hyq8 hHeld ?restq8
                  case hiq8 => exact rfl
                  case hqq8 => exact fun _ _ _ h => h
                  case hyq8 =>
                    refine Or.inl ⟨by rfl, ?_⟩
                    intro w hSw
                    go_simp
                    (try with_reducible rfl)
                  try simp only [Act.put, List.getElem_toArray, List.getElem_cons_succ, List.getElem_cons_zero, List.setIfInBounds_toArray, List.set_cons_zero, List.set_cons_succ]
                  refine wpAnyH_take (i := 8) (oi := ?oiq9) (v := (.slice (some ⟨G, 0, none⟩) h.length h.length)) ?hiq9 (by kernel_rfl) (by kernel_rfl) (by kernel_rfl) ?hqq9 ?hyq9 hHeld ?restq9
                  case hiq9 => exact rfl
                  case hqq9 => exact fun _ _ _ h => h
                  case hyq9 =>
                    refine Or.inl ⟨by rfl, ?_⟩
                    intro w hSw
                    have m0 := hp_cell hSw.1 (j := i) (by simpa using HCI.out)
                    go_simp
                    (try with_reducible rfl)
                  try simp only [Act.put, List.getElem_toArray, List.getElem_cons_succ, List.getElem_cons_zero, List.setIfInBounds_toArray, List.set_cons_zero, List.set_cons_succ]
                  refine wpAnyH_take (i := 9) (oi := ?oiq10) (v := (.int .i64 m)) ?hiq10 (by kernel_rfl) (by kernel_rfl) (by kernel_rfl) ?hqq10 ?hyq10 hHeld ?restq10
                  case hiq10 => exact rfl
                  case hqq10 => exact fun _ _ _ h => h
                  case hyq10 =>
                    refine Or.inl ⟨by rfl, ?_⟩
                    intro w hSw
                    go_simp
                    (try with_reducible rfl)
                  try simp only [Act.put, List.getElem_toArray, List.getElem_cons_succ, List.getElem_cons_zero, List.setIfInBounds_toArray, List.set_cons_zero, List.set_cons_succ]
                  refine wpAnyH_take (i := 10) (oi := ?oiq11) (v := (.pointer (some ⟨G, m, none⟩))) ?hiq11 (by kernel_rfl) (by kernel_rfl) (by kernel_rfl) ?hqq11 ?hyq11 hHeld ?restq11
                  case hiq11 => exact rfl
                  case hqq11 => exact fun _ _ _ h => h
                  case hyq11 =>
                    refine Or.inl ⟨by rfl, ?_⟩
                    intro w hSw
                    go_simp
                    (try with_reducible rfl)
                  try simp only [Act.put, List.getElem_toArray, List.getElem_cons_succ, List.getElem_cons_zero, List.setIfInBounds_toArray, List.set_cons_zero, List.set_cons_succ]
                  refine wpAnyH_ready (rs := [11]) (by kernel_rfl) (by simp) ?_
                  refine AllReadyH.cons (o := ?or23_11) ?hr23_11 ?kr23_11 AllReadyH.nil
                  case hr23_11 => exact rfl
                  case kr23_11 =>
                    intro Kz hKz
                    go_simp
                    refine hKz.out _ _ hHeld (fun hHeld => ?_)
                    clear hKz Kz
                    try simp only [Act.put, List.getElem_toArray, List.getElem_cons_succ, List.getElem_cons_zero, List.setIfInBounds_toArray, List.set_cons_zero, List.set_cons_succ]
                    refine wpAnyH_take (i := 12) (oi := ?oiq12) (v := (.bool false)) ?hiq12 (by kernel_rfl) (by kernel_rfl) (by kernel_rfl) ?hqq12 ?hyq12 hHeld ?restq12
                    case hiq12 => exact rfl
                    case hqq12 => exact fun _ _ _ h => h
                    case hyq12 =>
                      refine Or.inl ⟨by rfl, ?_⟩
                      intro w hSw
                      go_simp
                      (try with_reducible rfl)
                    try simp only [Act.put, List.getElem_toArray, List.getElem_cons_succ, List.getElem_cons_zero, List.setIfInBounds_toArray, List.set_cons_zero, List.set_cons_succ]
                    refine wpAnyH_take (i := 13) (oi := ?oiq13) (v := (.slice (some ⟨M, 0, none⟩) h.length h.length)) ?hiq13 (by kernel_rfl) (by kernel_rfl) (by kernel_rfl) ?hqq13 ?hyq13 hHeld ?restq13
                    case hiq13 => exact rfl
                    case hqq13 => exact fun _ _ _ h => h
                    case hyq13 =>
                      refine Or.inl ⟨by rfl, ?_⟩
                      intro w hSw
                      go_simp
                      (try with_reducible rfl)
                    try simp only [Act.put, List.getElem_toArray, List.getElem_cons_succ, List.getElem_cons_zero, List.setIfInBounds_toArray, List.set_cons_zero, List.set_cons_succ]
                    refine wpAnyH_take (i := 14) (oi := ?oiq14) (v := (.int .i64 k)) ?hiq14 (by kernel_rfl) (by kernel_rfl) (by kernel_rfl) ?hqq14 ?hyq14 hHeld ?restq14
                    case hiq14 => exact rfl
                    case hqq14 => exact fun _ _ _ h => h
                    case hyq14 =>
                      refine Or.inl ⟨by rfl, ?_⟩
                      intro w hSw
                      go_simp
                      (try with_reducible rfl)
                    try simp only [Act.put, List.getElem_toArray, List.getElem_cons_succ, List.getElem_cons_zero, List.setIfInBounds_toArray, List.set_cons_zero, List.set_cons_succ]
                    refine wpAnyH_take (i := 15) (oi := ?oiq15) (v := (.pointer (some ⟨M, k, none⟩))) ?hiq15 (by kernel_rfl) (by kernel_rfl) (by kernel_rfl) ?hqq15 ?hyq15 hHeld ?restq15
                    case hiq15 => exact rfl
                    case hqq15 => exact fun _ _ _ h => h
                    case hyq15 =>
                      refine Or.inl ⟨by rfl, ?_⟩
                      intro w hSw
                      go_simp
                      (try with_reducible rfl)
                    try simp only [Act.put, List.getElem_toArray, List.getElem_cons_succ, List.getElem_cons_zero, List.setIfInBounds_toArray, List.set_cons_zero, List.set_cons_succ]
                    refine wpAnyH_take (i := 16) (oi := ?oiq16) (v := (.slice (some ⟨gk, 0, none⟩) h.length h.length)) ?hiq16 (by kernel_rfl) (by kernel_rfl) (by kernel_rfl) ?hqq16 ?hyq16 hHeld ?restq16
                    case hiq16 => exact rfl
                    case hqq16 => exact fun _ _ _ h => h
                    case hyq16 =>
                      refine Or.inl ⟨by rfl, ?_⟩
                      intro w hSw
                      have m0 := hp_cell hSw.1 (j := k) (by simpa using HCK.out)
                      go_simp
                      (try with_reducible rfl)
                    try simp only [Act.put, List.getElem_toArray, List.getElem_cons_succ, List.getElem_cons_zero, List.setIfInBounds_toArray, List.set_cons_zero, List.set_cons_succ]
                    refine wpAnyH_take (i := 17) (oi := ?oiq17) (v := (.int .i64 m)) ?hiq17 (by kernel_rfl) (by kernel_rfl) (by kernel_rfl) ?hqq17 ?hyq17 hHeld ?restq17
                    case hiq17 => exact rfl
                    case hqq17 => exact fun _ _ _ h => h
                    case hyq17 =>
                      refine Or.inl ⟨by rfl, ?_⟩
                      intro w hSw
                      go_simp
                      (try with_reducible rfl)
                    try simp only [Act.put, List.getElem_toArray, List.getElem_cons_succ, List.getElem_cons_zero, List.setIfInBounds_toArray, List.set_cons_zero, List.set_cons_succ]
                    refine wpAnyH_take (i := 18) (oi := ?oiq18) (v := (.pointer (some ⟨gk, m, none⟩))) ?hiq18 (by kernel_rfl) (by kernel_rfl) (by kernel_rfl) ?hqq18 ?hyq18 hHeld ?restq18
                    case hiq18 => exact rfl
                    case hqq18 => exact fun _ _ _ h => h
                    case hyq18 =>
                      refine Or.inl ⟨by rfl, ?_⟩
                      intro w hSw
                      go_simp
                      (try with_reducible rfl)
                    try simp only [Act.put, List.getElem_toArray, List.getElem_cons_succ, List.getElem_cons_zero, List.setIfInBounds_toArray, List.set_cons_zero, List.set_cons_succ]
                    refine wpAnyH_take (i := 19) (oi := ?oiq19) (v := (.bool N)) ?hiq19 (by kernel_rfl) (by kernel_rfl) (by kernel_rfl) ?hqq19 ?hyq19 hHeld ?restq19
                    case hiq19 => exact rfl
                    case hqq19 => exact fun _ _ _ h => h
                    case hyq19 =>
                      refine Or.inl ⟨by rfl, ?_⟩
                      intro w hSw
                      have m0 := hp_cell hSw.2 (bv_get (bL (ndB h k) h.length) m (by rw [bL_len]; omega))
                      rw [bL_get _ (show m < h.length by omega), hVN] at m0
                      go_simp
                      (try with_reducible rfl)
                    try simp only [Act.put, List.getElem_toArray, List.getElem_cons_succ, List.getElem_cons_zero, List.setIfInBounds_toArray, List.set_cons_zero, List.set_cons_succ]
                    refine wpAnyH_take (i := 20) (oi := ?oiq20) (v := (.bool N)) ?hiq20 (by kernel_rfl) (by kernel_rfl) (by kernel_rfl) ?hqq20 ?hyq20 hHeld ?restq20
                    case hiq20 => exact rfl
                    case hqq20 => exact fun _ _ _ h => h
                    case hyq20 =>
                      refine Or.inl ⟨by rfl, ?_⟩
                      intro w hSw
                      go_simp
                      (try with_reducible rfl)
                    try simp only [Act.put, List.getElem_toArray, List.getElem_cons_succ, List.getElem_cons_zero, List.setIfInBounds_toArray, List.set_cons_zero, List.set_cons_succ]
                    refine wpAnyH_take (i := 21) (oi := ?oiq21) (v := (.pointer (some ⟨G, m, none⟩))) ?hiq21 (by kernel_rfl) (by kernel_rfl) (by kernel_rfl) ?hqq21 ?hyq21 hHeld ?restq21
                    case hiq21 => exact rfl
                    case hqq21 => exact fun _ _ _ h => h
                    case hyq21 =>
                      refine Or.inl ⟨by rfl, ?_⟩
                      intro w hSw
                      go_simp
                      (try with_reducible rfl)
                    try simp only [Act.put, List.getElem_toArray, List.getElem_cons_succ, List.getElem_cons_zero, List.setIfInBounds_toArray, List.set_cons_zero, List.set_cons_succ]
                    refine wpAnyH_ready (rs := [22]) (by kernel_rfl) (by simp) ?_
                    refine AllReadyH.cons (o := ?or22_22) ?hr22_22 ?kr22_22 AllReadyH.nil
                    case hr22_22 => exact rfl
                    case kr22_22 =>
                      intro Kz hKz
                      go_simp
                      have HG2 := Lib.hid (show (Wd.setCell ⟨G, m, none⟩ (.bool N)).heap[G]? = some (.cells (bv (bL (rowM h i k (m + 1)) h.length)) 4 (0, 0)) from by
                        have q := hp_put HD1.out m (.bool N)
                        have q2 := rowM_put h i k m h.length
                        rw [hVI, hVN] at q2
                        rw [bv_set, show (bL (rowM h i k m) h.length).set m N = bL (rowM h i k (m + 1)) h.length from by rw [← q2]; simp] at q
                        exact q)
                      have HI2 := Lib.hid (HD2.out.off (Off.setCell G Wd m (.bool N)) (by omega) HGR.out)
                      have HB2 := Lib.hid (HD3.out.setCell (p := ⟨G, m, none⟩) (by show w.heap.size ≤ G; have := HMM.out; omega) (.bool N))
                      refine hKz.out _ _ ⟨hp_set HD2.out.bm (by show M ≠ G; omega) _, hp_set HDK.out (by show gk ≠ G; omega) _⟩ (fun hHeld => ?_)
                      clear hKz Kz
                      try simp only [Act.put, List.getElem_toArray, List.getElem_cons_succ, List.getElem_cons_zero, List.setIfInBounds_toArray, List.set_cons_zero, List.set_cons_succ]
                      refine wpAnyH_done (by kernel_rfl) ?_ _
                      clear hHeld
                      go_wp2_with fail
                      go_roundw
                      case rel => exact ⟨m + 1, by omega, by go_num, HI2.out, HG2.out, HB2.out⟩
                      case measure => simp [intOf]; omega
                · refine wp_region_held_drew (S := (fun W2 => W2.heap[M]? = some (.cells cs.toArray 70 (0, 0)) ∧ W2.heap[gk]? = some (.cells (bv (bL (ndB h k) h.length)) 4 (0, 0)))) (by kernel_rfl) ?_ (fun hHeld => ?_)
                  · exact ⟨hp_drew HIm.out.bm, hp_drew HGK.out⟩
                  have HD1 := Lib.hid (hp_drew HGm.out)
                  have HD2 := Lib.hid (HIm.out.low (Below.refl _ _).drew)
                  have HD3 := Lib.hid (HBm.out.drew)
                  have HDK := Lib.hid (hp_drew HGK.out)
                  have d1 := hp_cell HD1.out (bv_get (bL (rowM h i k m) h.length) m (by rw [bL_len]; omega))
                  rw [bL_get _ (show m < h.length by omega), hVI] at d1
                  have d0 := hp_free HD1.out m
                  clear HGm HIm HBm HGK
                  generalize wr.drew = Wd at *
                  refine wpAnyH_take (i := 0) (oi := ?oiq24) (v := (.slice (some ⟨M, 0, none⟩) h.length h.length)) ?hiq24 (by kernel_rfl) (by kernel_rfl) (by kernel_rfl) ?hqq24 ?hyq24 hHeld ?restq24
                  case hiq24 => exact rfl
                  case hqq24 => exact fun _ _ _ h => h
                  case hyq24 =>
                    refine Or.inl ⟨by rfl, ?_⟩
                    intro w hSw
                    go_simp
                    (try with_reducible rfl)
                  try simp only [Act.put, List.getElem_toArray, List.getElem_cons_succ, List.getElem_cons_zero, List.setIfInBounds_toArray, List.set_cons_zero, List.set_cons_succ]
                  refine wpAnyH_take (i := 1) (oi := ?oiq25) (v := (.int .i64 i)) ?hiq25 (by kernel_rfl) (by kernel_rfl) (by kernel_rfl) ?hqq25 ?hyq25 hHeld ?restq25
                  case hiq25 => exact rfl
                  case hqq25 => exact fun _ _ _ h => h
                  case hyq25 =>
                    refine Or.inl ⟨by rfl, ?_⟩
                    intro w hSw
                    go_simp
                    (try with_reducible rfl)
                  try simp only [Act.put, List.getElem_toArray, List.getElem_cons_succ, List.getElem_cons_zero, List.setIfInBounds_toArray, List.set_cons_zero, List.set_cons_succ]
                  refine wpAnyH_take (i := 2) (oi := ?oiq26) (v := (.pointer (some ⟨M, i, none⟩))) ?hiq26 (by kernel_rfl) (by kernel_rfl) (by kernel_rfl) ?hqq26 ?hyq26 hHeld ?restq26
                  case hiq26 => exact rfl
                  case hqq26 => exact fun _ _ _ h => h
                  case hyq26 =>
                    refine Or.inl ⟨by rfl, ?_⟩
                    intro w hSw
                    go_simp
                    (try with_reducible rfl)
                  try simp only [Act.put, List.getElem_toArray, List.getElem_cons_succ, List.getElem_cons_zero, List.setIfInBounds_toArray, List.set_cons_zero, List.set_cons_succ]
                  refine wpAnyH_take (i := 3) (oi := ?oiq27) (v := (.slice (some ⟨G, 0, none⟩) h.length h.length)) ?hiq27 (by kernel_rfl) (by kernel_rfl) (by kernel_rfl) ?hqq27 ?hyq27 hHeld ?restq27
                  case hiq27 => exact rfl
                  case hqq27 => exact fun _ _ _ h => h
                  case hyq27 =>
                    refine Or.inl ⟨by rfl, ?_⟩
                    intro w hSw
                    have m0 := hp_cell hSw.1 (j := i) (by simpa using HCI.out)
                    go_simp
                    (try with_reducible rfl)
                  try simp only [Act.put, List.getElem_toArray, List.getElem_cons_succ, List.getElem_cons_zero, List.setIfInBounds_toArray, List.set_cons_zero, List.set_cons_succ]
                  refine wpAnyH_take (i := 4) (oi := ?oiq28) (v := (.int .i64 m)) ?hiq28 (by kernel_rfl) (by kernel_rfl) (by kernel_rfl) ?hqq28 ?hyq28 hHeld ?restq28
                  case hiq28 => exact rfl
                  case hqq28 => exact fun _ _ _ h => h
                  case hyq28 =>
                    refine Or.inl ⟨by rfl, ?_⟩
                    intro w hSw
                    go_simp
                    (try with_reducible rfl)
                  try simp only [Act.put, List.getElem_toArray, List.getElem_cons_succ, List.getElem_cons_zero, List.setIfInBounds_toArray, List.set_cons_zero, List.set_cons_succ]
                  refine wpAnyH_take (i := 5) (oi := ?oiq29) (v := (.slice (some ⟨M, 0, none⟩) h.length h.length)) ?hiq29 (by kernel_rfl) (by kernel_rfl) (by kernel_rfl) ?hqq29 ?hyq29 hHeld ?restq29
                  case hiq29 => exact rfl
                  case hqq29 => exact fun _ _ _ h => h
                  case hyq29 =>
                    refine Or.inl ⟨by rfl, ?_⟩
                    intro w hSw
                    go_simp
                    (try with_reducible rfl)
                  try simp only [Act.put, List.getElem_toArray, List.getElem_cons_succ, List.getElem_cons_zero, List.setIfInBounds_toArray, List.set_cons_zero, List.set_cons_succ]
                  refine wpAnyH_take (i := 6) (oi := ?oiq30) (v := (.int .i64 i)) ?hiq30 (by kernel_rfl) (by kernel_rfl) (by kernel_rfl) ?hqq30 ?hyq30 hHeld ?restq30
                  case hiq30 => exact rfl
                  case hqq30 => exact fun _ _ _ h => h
                  case hyq30 =>
                    refine Or.inl ⟨by rfl, ?_⟩
                    intro w hSw
                    go_simp
                    (try with_reducible rfl)
                  try simp only [Act.put, List.getElem_toArray, List.getElem_cons_succ, List.getElem_cons_zero, List.setIfInBounds_toArray, List.set_cons_zero, List.set_cons_succ]
                  refine wpAnyH_take (i := 7) (oi := ?oiq31) (v := (.pointer (some ⟨M, i, none⟩))) ?hiq31 (by kernel_rfl) (by kernel_rfl) (by kernel_rfl) ?hqq31 ?hyq31 hHeld ?restq31
                  case hiq31 => exact rfl
                  case hqq31 => exact fun _ _ _ h => h
                  case hyq31 =>
                    refine Or.inl ⟨by rfl, ?_⟩
                    intro w hSw
                    go_simp
                    (try with_reducible rfl)
                  try simp only [Act.put, List.getElem_toArray, List.getElem_cons_succ, List.getElem_cons_zero, List.setIfInBounds_toArray, List.set_cons_zero, List.set_cons_succ]
                  refine wpAnyH_take (i := 8) (oi := ?oiq32) (v := (.slice (some ⟨G, 0, none⟩) h.length h.length)) ?hiq32 (by kernel_rfl) (by kernel_rfl) (by kernel_rfl) ?hqq32 ?hyq32 hHeld ?restq32
                  case hiq32 => exact rfl
                  case hqq32 => exact fun _ _ _ h => h
                  case hyq32 =>
                    refine Or.inl ⟨by rfl, ?_⟩
                    intro w hSw
                    have m0 := hp_cell hSw.1 (j := i) (by simpa using HCI.out)
                    go_simp
                    (try with_reducible rfl)
                  try simp only [Act.put, List.getElem_toArray, List.getElem_cons_succ, List.getElem_cons_zero, List.setIfInBounds_toArray, List.set_cons_zero, List.set_cons_succ]
                  refine wpAnyH_take (i := 9) (oi := ?oiq33) (v := (.int .i64 m)) ?hiq33 (by kernel_rfl) (by kernel_rfl) (by kernel_rfl) ?hqq33 ?hyq33 hHeld ?restq33
                  case hiq33 => exact rfl
                  case hqq33 => exact fun _ _ _ h => h
                  case hyq33 =>
                    refine Or.inl ⟨by rfl, ?_⟩
                    intro w hSw
                    go_simp
                    (try with_reducible rfl)
                  try simp only [Act.put, List.getElem_toArray, List.getElem_cons_succ, List.getElem_cons_zero, List.setIfInBounds_toArray, List.set_cons_zero, List.set_cons_succ]
                  refine wpAnyH_take (i := 10) (oi := ?oiq34) (v := (.pointer (some ⟨G, m, none⟩))) ?hiq34 (by kernel_rfl) (by kernel_rfl) (by kernel_rfl) ?hqq34 ?hyq34 hHeld ?restq34
                  case hiq34 => exact rfl
                  case hqq34 => exact fun _ _ _ h => h
                  case hyq34 =>
                    refine Or.inl ⟨by rfl, ?_⟩
                    intro w hSw
                    go_simp
                    (try with_reducible rfl)
                  try simp only [Act.put, List.getElem_toArray, List.getElem_cons_succ, List.getElem_cons_zero, List.setIfInBounds_toArray, List.set_cons_zero, List.set_cons_succ]
                  refine wpAnyH_ready (rs := [11]) (by kernel_rfl) (by simp) ?_
                  refine AllReadyH.cons (o := ?or46_11) ?hr46_11 ?kr46_11 AllReadyH.nil
                  case hr46_11 => exact rfl
                  case kr46_11 =>
                    intro Kz hKz
                    go_simp
                    refine hKz.out _ _ hHeld (fun hHeld => ?_)
                    clear hKz Kz
                    try simp only [Act.put, List.getElem_toArray, List.getElem_cons_succ, List.getElem_cons_zero, List.setIfInBounds_toArray, List.set_cons_zero, List.set_cons_succ]
                    refine wpAnyH_take (i := 12) (oi := ?oiq35) (v := (.bool true)) ?hiq35 (by kernel_rfl) (by kernel_rfl) (by kernel_rfl) ?hqq35 ?hyq35 hHeld ?restq35
                    case hiq35 => exact rfl
                    case hqq35 => exact fun _ _ _ h => h
                    case hyq35 =>
                      refine Or.inl ⟨by rfl, ?_⟩
                      intro w hSw
                      go_simp
                      (try with_reducible rfl)
                    try simp only [Act.put, List.getElem_toArray, List.getElem_cons_succ, List.getElem_cons_zero, List.setIfInBounds_toArray, List.set_cons_zero, List.set_cons_succ]
                    refine wpAnyH_take (i := 13) (oi := ?oiq36) (v := undef) ?hiq36 (by kernel_rfl) (by kernel_rfl) (by kernel_rfl) ?hqq36 ?hyq36 hHeld ?restq36
                    case hiq36 => exact rfl
                    case hqq36 => exact fun _ _ _ h => h
                    case hyq36 => exact Or.inr ⟨by kernel_rfl, rfl⟩
                    try simp only [Act.put, List.getElem_toArray, List.getElem_cons_succ, List.getElem_cons_zero, List.setIfInBounds_toArray, List.set_cons_zero, List.set_cons_succ]
                    refine wpAnyH_take (i := 14) (oi := ?oiq37) (v := undef) ?hiq37 (by kernel_rfl) (by kernel_rfl) (by kernel_rfl) ?hqq37 ?hyq37 hHeld ?restq37
                    case hiq37 => exact rfl
                    case hqq37 => exact fun _ _ _ h => h
                    case hyq37 => exact Or.inr ⟨by kernel_rfl, rfl⟩
                    try simp only [Act.put, List.getElem_toArray, List.getElem_cons_succ, List.getElem_cons_zero, List.setIfInBounds_toArray, List.set_cons_zero, List.set_cons_succ]
                    refine wpAnyH_take (i := 15) (oi := ?oiq38) (v := undef) ?hiq38 (by kernel_rfl) (by kernel_rfl) (by kernel_rfl) ?hqq38 ?hyq38 hHeld ?restq38
                    case hiq38 => exact rfl
                    case hqq38 => exact fun _ _ _ h => h
                    case hyq38 => exact Or.inr ⟨by kernel_rfl, rfl⟩
                    try simp only [Act.put, List.getElem_toArray, List.getElem_cons_succ, List.getElem_cons_zero, List.setIfInBounds_toArray, List.set_cons_zero, List.set_cons_succ]
                    refine wpAnyH_take (i := 16) (oi := ?oiq39) (v := undef) ?hiq39 (by kernel_rfl) (by kernel_rfl) (by kernel_rfl) ?hqq39 ?hyq39 hHeld ?restq39
                    case hiq39 => exact rfl
                    case hqq39 => exact fun _ _ _ h => h
                    case hyq39 => exact Or.inr ⟨by kernel_rfl, rfl⟩
                    try simp only [Act.put, List.getElem_toArray, List.getElem_cons_succ, List.getElem_cons_zero, List.setIfInBounds_toArray, List.set_cons_zero, List.set_cons_succ]
                    refine wpAnyH_take (i := 17) (oi := ?oiq40) (v := undef) ?hiq40 (by kernel_rfl) (by kernel_rfl) (by kernel_rfl) ?hqq40 ?hyq40 hHeld ?restq40
                    case hiq40 => exact rfl
                    case hqq40 => exact fun _ _ _ h => h
                    case hyq40 => exact Or.inr ⟨by kernel_rfl, rfl⟩
                    try simp only [Act.put, List.getElem_toArray, List.getElem_cons_succ, List.getElem_cons_zero, List.setIfInBounds_toArray, List.set_cons_zero, List.set_cons_succ]
                    refine wpAnyH_take (i := 18) (oi := ?oiq41) (v := undef) ?hiq41 (by kernel_rfl) (by kernel_rfl) (by kernel_rfl) ?hqq41 ?hyq41 hHeld ?restq41
                    case hiq41 => exact rfl
                    case hqq41 => exact fun _ _ _ h => h
                    case hyq41 => exact Or.inr ⟨by kernel_rfl, rfl⟩
                    try simp only [Act.put, List.getElem_toArray, List.getElem_cons_succ, List.getElem_cons_zero, List.setIfInBounds_toArray, List.set_cons_zero, List.set_cons_succ]
                    refine wpAnyH_take (i := 19) (oi := ?oiq42) (v := undef) ?hiq42 (by kernel_rfl) (by kernel_rfl) (by kernel_rfl) ?hqq42 ?hyq42 hHeld ?restq42
                    case hiq42 => exact rfl
                    case hqq42 => exact fun _ _ _ h => h
                    case hyq42 => exact Or.inr ⟨by kernel_rfl, rfl⟩
                    try simp only [Act.put, List.getElem_toArray, List.getElem_cons_succ, List.getElem_cons_zero, List.setIfInBounds_toArray, List.set_cons_zero, List.set_cons_succ]
                    refine wpAnyH_take (i := 20) (oi := ?oiq43) (v := (.bool true)) ?hiq43 (by kernel_rfl) (by kernel_rfl) (by kernel_rfl) ?hqq43 ?hyq43 hHeld ?restq43
                    case hiq43 => exact rfl
                    case hqq43 => exact fun _ _ _ h => h
                    case hyq43 =>
                      refine Or.inl ⟨by rfl, ?_⟩
                      intro w hSw
                      go_simp
                      (try with_reducible rfl)
                    try simp only [Act.put, List.getElem_toArray, List.getElem_cons_succ, List.getElem_cons_zero, List.setIfInBounds_toArray, List.set_cons_zero, List.set_cons_succ]
                    refine wpAnyH_take (i := 21) (oi := ?oiq44) (v := (.pointer (some ⟨G, m, none⟩))) ?hiq44 (by kernel_rfl) (by kernel_rfl) (by kernel_rfl) ?hqq44 ?hyq44 hHeld ?restq44
                    case hiq44 => exact rfl
                    case hqq44 => exact fun _ _ _ h => h
                    case hyq44 =>
                      refine Or.inl ⟨by rfl, ?_⟩
                      intro w hSw
                      go_simp
                      (try with_reducible rfl)
                    try simp only [Act.put, List.getElem_toArray, List.getElem_cons_succ, List.getElem_cons_zero, List.setIfInBounds_toArray, List.set_cons_zero, List.set_cons_succ]
                    refine wpAnyH_ready (rs := [22]) (by kernel_rfl) (by simp) ?_
                    refine AllReadyH.cons (o := ?or45_22) ?hr45_22 ?kr45_22 AllReadyH.nil
                    case hr45_22 => exact rfl
                    case kr45_22 =>
                      intro Kz hKz
                      go_simp
                      have HG2 := Lib.hid (show (Wd.setCell ⟨G, m, none⟩ (.bool true)).heap[G]? = some (.cells (bv (bL (rowM h i k (m + 1)) h.length)) 4 (0, 0)) from by
                        have q := hp_put HD1.out m (.bool true)
                        have q2 := rowM_put h i k m h.length
                        rw [hVI, hVN] at q2
                        rw [bv_set, show (bL (rowM h i k m) h.length).set m true = bL (rowM h i k (m + 1)) h.length from by rw [← q2]; simp] at q
                        exact q)
                      have HI2 := Lib.hid (HD2.out.off (Off.setCell G Wd m (.bool true)) (by omega) HGR.out)
                      have HB2 := Lib.hid (HD3.out.setCell (p := ⟨G, m, none⟩) (by show w.heap.size ≤ G; have := HMM.out; omega) (.bool true))
                      refine hKz.out _ _ ⟨hp_set HD2.out.bm (by show M ≠ G; omega) _, hp_set HDK.out (by show gk ≠ G; omega) _⟩ (fun hHeld => ?_)
                      clear hKz Kz
                      try simp only [Act.put, List.getElem_toArray, List.getElem_cons_succ, List.getElem_cons_zero, List.setIfInBounds_toArray, List.set_cons_zero, List.set_cons_succ]
                      refine wpAnyH_done (by kernel_rfl) ?_ _
                      clear hHeld
                      go_wp2_with fail
                      go_roundw
                      case rel => exact ⟨m + 1, by omega, by go_num, HI2.out, HG2.out, HB2.out⟩
                      case measure => simp [intOf]; omega
              · obtain rfl : m = k := by omega
                go_wp2_with fail
                go_roundw
                case rel => exact ⟨m + 1, by omega, by go_num, HIm.out, by rw [← HN.out]; exact HGm.out, HBm.out⟩
                case measure => simp [intOf]; omega
        · obtain rfl : k = i := by omega
          go_wp2_with fail
          go_roundw
          case rel =>
            refine ⟨k + 1, cs, by omega, by go_num, ⟨HI.out.bm, HI.out.len, fun j hj => ?_⟩, HB.out⟩
            by_cases hjk : j < k
            · exact HI.out.rows j hjk
            · obtain rfl : j = k := by omega
              refine ⟨G, HCI.out, hMG, ?_⟩
              have : bL (rowK h j j) h.length = bL (ndB h j) h.length := bL_eq fun x _ => rowK_all h j x
              rw [← this]
              exact HG.out
          case measure => simp [intOf]; omega
    · obtain rfl : i = h.length := by omega
      go_wp2_with fail
      go_ret
      exact ⟨_, rfl, HI.out.mat, HB.out⟩

end Go.Proofs.Ytikblaebfpdngaa

/- Needs and Needed of the document (tinkerref07): contracts. -/
set_option linter.unusedVariables false
set_option linter.unusedSimpArgs false
namespace Go.Proofs.Ytikblaebfpdngaa
open Go.RowKit Tinker


set_option maxRecDepth 100000 in
set_option maxHeartbeats 2000000 in
theorem rNeedsA_any (a g : Option Addr) (ca cg : Nat) (ps : List L) (h : List (List E)) (n : Int) (w : World) (hp : LinesAt w a ps) (hh : RowsEAt w g h) (hpl : ps.length ≤ 1000) (hhl : h.length ≤ 1000) (hm : ∀ x ∈ h, x.length ≤ 1000) :
    Calls Try.prog 22 #[.slice a ps.length ca, .slice g h.length cg, .int .i64 n] w (GivesIntsE (if vnC ps h n = 0 then ints (nedN h n.toNat) else []) (vnC ps h n) w) := by
  have HV := Lib.hid (rNum_any a g ca cg ps h n w hp hh hpl hhl hm)
  by_cases hz : vnC ps h n = 0
  · rw [if_pos hz, hz]
    rw [hz] at HV
    obtain ⟨i0, hi, hz0, hz1, hz2⟩ := info_parts info_int
    obtain ⟨hv, m, rfl, hml⟩ := vnC_0 hz
    have h8 : h.length ≤ 8 := (vst_ok hv).2.1
    have HH := Lib.hid hh
    have HC := Lib.hid (fun W hW => rNeeds_any g cg h W hW h8 hm)
    rw [Int.toNat_natCast]
    obtain ⟨p, hpe⟩ : ∃ p : Nat → Bool, p = ndB h m := ⟨_, rfl⟩
    have HPE := Lib.hid hpe
    have HRS := Lib.hid (show nedN h m = (List.range h.length).filter p by rw [hpe]; rfl)
    rw [HRS.out]
    have j2 : (0 : Int) ≤ (m : Int) := by omega
    have j3 : (m : Int) < (h.length : Int) := by omega
    clear hz hp hh hm hv hpe hhl
    go_enter Try.func22, Try.ntmps22
    go_wp2_with fail
    refine HV.out.mono ?_
    rintro e w1 ⟨rfl, hB⟩
    have HB1 := Lib.hid hB
    clear hB
    go_wp2_with fail
    refine (HC.out w1 (HH.out.below HB1.out (Nat.le_refl _))).mono ?_
    rintro e w2 ⟨M, rfl, hM, hB⟩
    have HB2 := Lib.hid (HB1.out.trans (hB.mono HB1.out.size))
    obtain ⟨b, rfl, hbl, hc⟩ := hM.resolve_left (by omega)
    have HM := Lib.hid hc
    clear hB hM hc HB1
    go_wp2_with fail
    go_loopw [10, 11] (fun s10 s11 wr => ∃ k : Nat, k ≤ h.length ∧ s11 = .int .i64 k ∧ wr.ownsRow w2.heap.size 3 1 s10 (ints ((List.range k).filter p)).length ((ints ((List.range k).filter p)).map (Value.int .i64)) ∧ Below w2.heap.size w2 wr) (fun _ s11 _ => h.length - (intOf s11).toNat)
    case atStart => exact ⟨0, Nat.zero_le _, rfl, World.ownsRow_nil _ _ _ _, Below.refl _ _⟩
    case round =>
      obtain ⟨k, hk, rfl, hown, hB⟩ := hrel
      have HO := Lib.hid hown
      have HB := Lib.hid hB
      clear hown hB
      by_cases hlt : k < h.length
      · obtain ⟨gr, cr, c0, hgl, hc⟩ := HM.out m (by omega)
        have c1 := hc k (by omega)
        have q0 := (HB.out.cell (p := ⟨b, m, none⟩) hbl).trans c0
        have q1 := (HB.out.cell (p := ⟨gr, k, none⟩) hgl).trans c1
        have j0 : (0 : Int) ≤ (k : Int) := by omega
        have j1 : (k : Int) < (h.length : Int) := by omega
        have hpk : p k = ndB h m k := by rw [HPE.out]
        have hlen := flt_len p k
        have HPK := Lib.hid hpk
        clear c0 c1 hc hpk
        cases hI : ndB h m k
        · rw [hI] at q1
          have HN := Lib.hid (flt_no (HPK.out.trans hI))
          clear hI
          go_wp2_with fail
          go_roundw
          case rel => exact ⟨k + 1, by omega, by go_num, by rw [HN.out]; exact HO.out, HB.out⟩
          case measure => simp [intOf]; omega
        · rw [hI] at q1
          have HN := Lib.hid (flt_yes (HPK.out.trans hI))
          clear hI
          go_wp2_with (at_builtin; refine wpList_append_own _ rfl (.tmp 34) (.tmp 36) 35 rfl w2.heap.size 3 i0 (.int .i64 0) 1 8 Try.underlying35 hi hz0 hz1 hz2 rfl (by decide) _ _ _ rfl (HO.out.alloc _) ⟨wr.heap.size, 0, none⟩ 1 1 [.int .i64 k] rfl rfl ?c1 ?c2 ?c3 ?c4 ?c5 ?_)
          case c1 => exact cell_one_new _ _ _
          case c2 => simp [Value.oneCell']
          case c3 => unfold maxLen; omega
          case c4 => omega
          case c5 => have := HB.out.size; simp; omega
          intro v' w3 hown' hgrow _
          have hB1 : Below w2.heap.size w2 w3 := (HB.out.alloc HB.out.size _).grown hgrow (by have := HB.out.size; simp; omega) (own_base HO.out)
          have e : (ints ((List.range k).filter p)).map (Value.int .i64) ++ [.int .i64 k] = (ints ((List.range (k + 1)).filter p)).map (Value.int .i64) := by rw [HN.out]; simp
          have e2 : (ints ((List.range k).filter p)).length + 1 = (ints ((List.range (k + 1)).filter p)).length := by rw [HN.out]; simp
          rw [e, e2] at hown'
          have HO3 := Lib.hid hown'
          have HB3 := Lib.hid hB1
          clear hown' hgrow e e2 hB1 HO HB
          go_wp2_with fail
          go_roundw
          case rel => exact ⟨k + 1, by omega, by go_num, HO3.out, HB3.out⟩
          case measure => simp [intOf]; omega
      · obtain rfl : k = h.length := by omega
        have hO9 := HO.out
        obtain ⟨av, cv, rfl⟩ := own_slice hO9
        clear hO9
        go_wp2_with fail
        go_ret2
        exact ⟨av, cv, rfl, own_mono HO.out HB2.out.size, HB2.out.trans (HB.out.mono HB2.out.size)⟩
  · rw [if_neg hz]
    have hz1 : (vnC ps h n != 0) = true := by simpa using hz
    clear hz hp hh hm
    generalize vnC ps h n = c at HV hz1 ⊢
    go_enter Try.func22, Try.ntmps22
    go_wp2_with fail
    refine HV.out.mono ?_
    rintro e w1 ⟨rfl, hB⟩
    have HB := Lib.hid hB
    clear hB
    go_wp2_with fail
    go_ret2
    exact givesIntsE_nil HB.out

set_option maxRecDepth 100000 in
set_option maxHeartbeats 2000000 in
theorem rNeededA_any (a g : Option Addr) (ca cg : Nat) (ps : List L) (h : List (List E)) (n : Int) (w : World) (hp : LinesAt w a ps) (hh : RowsEAt w g h) (hpl : ps.length ≤ 1000) (hhl : h.length ≤ 1000) (hm : ∀ x ∈ h, x.length ≤ 1000) :
    Calls Try.prog 24 #[.slice a ps.length ca, .slice g h.length cg, .int .i64 n] w (GivesIntsE (if vnC ps h n = 0 then ints (nddN h n.toNat) else []) (vnC ps h n) w) := by
  have HV := Lib.hid (rNum_any a g ca cg ps h n w hp hh hpl hhl hm)
  by_cases hz : vnC ps h n = 0
  · rw [if_pos hz, hz]
    rw [hz] at HV
    obtain ⟨i0, hi, hz0, hz1, hz2⟩ := info_parts info_int
    obtain ⟨hv, m, rfl, hml⟩ := vnC_0 hz
    have h8 : h.length ≤ 8 := (vst_ok hv).2.1
    have HH := Lib.hid hh
    have HC := Lib.hid (fun W hW => rNeeds_any g cg h W hW h8 hm)
    rw [Int.toNat_natCast]
    obtain ⟨p, hpe⟩ : ∃ p : Nat → Bool, p = fun k => ndB h k m := ⟨_, rfl⟩
    have HPE := Lib.hid hpe
    have HRS := Lib.hid (show nddN h m = (List.range h.length).filter p by rw [hpe]; rfl)
    rw [HRS.out]
    have j2 : (0 : Int) ≤ (m : Int) := by omega
    have j3 : (m : Int) < (h.length : Int) := by omega
    clear hz hp hh hm hv hpe hhl
    go_enter Try.func24, Try.ntmps24
    go_wp2_with fail
    refine HV.out.mono ?_
    rintro e w1 ⟨rfl, hB⟩
    have HB1 := Lib.hid hB
    clear hB
    go_wp2_with fail
    refine (HC.out w1 (HH.out.below HB1.out (Nat.le_refl _))).mono ?_
    rintro e w2 ⟨M, rfl, hM, hB⟩
    have HB2 := Lib.hid (HB1.out.trans (hB.mono HB1.out.size))
    obtain ⟨b, rfl, hbl, hc⟩ := hM.resolve_left (by omega)
    have HM := Lib.hid hc
    clear hB hM hc HB1
    go_wp2_with fail
    go_loopw [10, 11] (fun s10 s11 wr => ∃ k : Nat, k ≤ h.length ∧ s11 = .int .i64 k ∧ wr.ownsRow w2.heap.size 3 1 s10 (ints ((List.range k).filter p)).length ((ints ((List.range k).filter p)).map (Value.int .i64)) ∧ Below w2.heap.size w2 wr) (fun _ s11 _ => h.length - (intOf s11).toNat)
    case atStart => exact ⟨0, Nat.zero_le _, rfl, World.ownsRow_nil _ _ _ _, Below.refl _ _⟩
    case round =>
      obtain ⟨k, hk, rfl, hown, hB⟩ := hrel
      have HO := Lib.hid hown
      have HB := Lib.hid hB
      clear hown hB
      by_cases hlt : k < h.length
      · obtain ⟨gr, cr, c0, hgl, hc⟩ := HM.out k (by omega)
        have c1 := hc m (by omega)
        have q0 := (HB.out.cell (p := ⟨b, k, none⟩) hbl).trans c0
        have q1 := (HB.out.cell (p := ⟨gr, m, none⟩) hgl).trans c1
        have j0 : (0 : Int) ≤ (k : Int) := by omega
        have j1 : (k : Int) < (h.length : Int) := by omega
        have hpk : p k = ndB h k m := by rw [HPE.out]
        have hlen := flt_len p k
        have HPK := Lib.hid hpk
        clear c0 c1 hc hpk
        cases hI : ndB h k m
        · rw [hI] at q1
          have HN := Lib.hid (flt_no (HPK.out.trans hI))
          clear hI
          go_wp2_with fail
          go_roundw
          case rel => exact ⟨k + 1, by omega, by go_num, by rw [HN.out]; exact HO.out, HB.out⟩
          case measure => simp [intOf]; omega
        · rw [hI] at q1
          have HN := Lib.hid (flt_yes (HPK.out.trans hI))
          clear hI
          go_wp2_with (at_builtin; refine wpList_append_own _ rfl (.tmp 34) (.tmp 36) 35 rfl w2.heap.size 3 i0 (.int .i64 0) 1 8 Try.underlying35 hi hz0 hz1 hz2 rfl (by decide) _ _ _ rfl (HO.out.alloc _) ⟨wr.heap.size, 0, none⟩ 1 1 [.int .i64 k] rfl rfl ?c1 ?c2 ?c3 ?c4 ?c5 ?_)
          case c1 => exact cell_one_new _ _ _
          case c2 => simp [Value.oneCell']
          case c3 => unfold maxLen; omega
          case c4 => omega
          case c5 => have := HB.out.size; simp; omega
          intro v' w3 hown' hgrow _
          have hB1 : Below w2.heap.size w2 w3 := (HB.out.alloc HB.out.size _).grown hgrow (by have := HB.out.size; simp; omega) (own_base HO.out)
          have e : (ints ((List.range k).filter p)).map (Value.int .i64) ++ [.int .i64 k] = (ints ((List.range (k + 1)).filter p)).map (Value.int .i64) := by rw [HN.out]; simp
          have e2 : (ints ((List.range k).filter p)).length + 1 = (ints ((List.range (k + 1)).filter p)).length := by rw [HN.out]; simp
          rw [e, e2] at hown'
          have HO3 := Lib.hid hown'
          have HB3 := Lib.hid hB1
          clear hown' hgrow e e2 hB1 HO HB
          go_wp2_with fail
          go_roundw
          case rel => exact ⟨k + 1, by omega, by go_num, HO3.out, HB3.out⟩
          case measure => simp [intOf]; omega
      · obtain rfl : k = h.length := by omega
        have hO9 := HO.out
        obtain ⟨av, cv, rfl⟩ := own_slice hO9
        clear hO9
        go_wp2_with fail
        go_ret2
        exact ⟨av, cv, rfl, own_mono HO.out HB2.out.size, HB2.out.trans (HB.out.mono HB2.out.size)⟩
  · rw [if_neg hz]
    have hz1 : (vnC ps h n != 0) = true := by simpa using hz
    clear hz hp hh hm
    generalize vnC ps h n = c at HV hz1 ⊢
    go_enter Try.func24, Try.ntmps24
    go_wp2_with fail
    refine HV.out.mono ?_
    rintro e w1 ⟨rfl, hB⟩
    have HB := Lib.hid hB
    clear hB
    go_wp2_with fail
    go_ret2
    exact givesIntsE_nil HB.out

end Go.Proofs.Ytikblaebfpdngaa

/- Revert of the document (tinkerref07): contract. -/
set_option linter.unusedVariables false
set_option linter.unusedSimpArgs false
namespace Go.Proofs.Ytikblaebfpdngaa
open Go.RowKit Tinker

/-- The first k numbers are as they must be. -/
def rvTo (n : Nat) (zs : List Int) (k : Nat) : Prop := isSetB (zs.take k) = true ∧ (zs.take k).all (btw · 0 ((n : Int) - 1)) = true
theorem rvTo_step {n : Nat} {zs : List Int} {k : Nat} {z : Int} (h : rvTo n zs k) (hz : zs[k]? = some z) (h1 : 0 ≤ z) (h2 : z < (n : Int)) (h3 : ∀ q y, k = q + 1 → zs[q]? = some y → y < z) : rvTo n zs (k + 1) := by
  have hk : k < zs.length := (List.getElem?_eq_some_iff.1 hz).1
  refine ⟨?_, all_snoc h.2 hz (btw_true.2 ⟨h1, by omega⟩)⟩
  rw [List.take_add_one, hz]
  refine set_snoc h.1 fun y hy => ?_
  rw [List.length_take, Nat.min_eq_left (by omega)] at hy
  cases k with
  | zero => simp at hy
  | succ q =>
    refine h3 q y rfl ?_
    rw [List.getElem?_take] at hy
    split at hy
    · simpa using hy
    · cases hy
theorem rv_bad {n : Nat} {zs : List Int} {k : Nat} {z : Int} (hz : zs[k]? = some z) (h : z < 0 ∨ (n : Int) ≤ z) : (isSetB zs && allBtw zs 0 ((n : Int) - 1)) = false := by
  cases hb : allBtw zs 0 ((n : Int) - 1)
  · rw [Bool.and_false]
  · have := allBtw_at hb (mem_of_get hz); omega
theorem rv_row {n : Nat} {zs : List Int} {q : Nat} {y z : Int} (hy : zs[q]? = some y) (hz : zs[q + 1]? = some z) (h : z ≤ y) : (isSetB zs && allBtw zs 0 ((n : Int) - 1)) = false := by
  rw [isSetB_no hy hz h]; rfl
theorem rv_1 {ps : List L} {h : List (List E)} {zs : List Int} (hv : vst ps h = 0) (hb : (isSetB zs && allBtw zs 0 ((h.length : Int) - 1)) = false) : rvC ps h zs = 1 ∧ rvR ps h zs = [] ∧ rvS ps h zs = [] := by
  have h1 : rvC ps h zs = 1 := by unfold rvC; rw [if_pos hv, hb]; rfl
  have h2 : rvC ps h zs ≠ 0 := by rw [h1]; decide
  exact ⟨h1, by unfold rvR; rw [if_neg h2], by unfold rvS; rw [if_neg h2]⟩
theorem rv_0 {ps : List L} {h : List (List E)} {zs : List Int} (hv : vst ps h = 0) (hb : rvTo h.length zs zs.length) : rvC ps h zs = 0 ∧ rvR ps h zs = plyL ps h (lefL h (natS zs)) ∧ rvS ps h zs = ints (lefL h (natS zs)) ∧ zs = ints (natS zs) ∧ ∀ m ∈ natS zs, m < h.length := by
  obtain ⟨b1, b2⟩ := hb
  rw [List.take_of_length_le (Nat.le_refl _)] at b1 b2
  have b2 : allBtw zs 0 ((h.length : Int) - 1) = true := b2
  have h1 : rvC ps h zs = 0 := by unfold rvC; rw [if_pos hv, b1, b2]; rfl
  exact ⟨h1, by unfold rvR; rw [if_pos h1], by unfold rvS; rw [if_pos h1], natS_ints b2⟩
theorem rv_v {ps : List L} {h : List (List E)} {zs : List Int} (hv : vst ps h ≠ 0) : rvC ps h zs = vst ps h ∧ rvR ps h zs = [] ∧ rvS ps h zs = [] := by
  have h1 : rvC ps h zs = vst ps h := by unfold rvC; rw [if_neg hv]
  have h2 : rvC ps h zs ≠ 0 := by rw [h1]; exact hv
  exact ⟨h1, by unfold rvR; rw [if_neg h2], by unfold rvS; rw [if_neg h2]⟩
theorem lefB_any (h : List (List E)) (s : List Nat) (n : Nat) : (!(s.contains n || s.any (ndB h n))) = lefB h s n := by
  unfold lefB
  rw [Bool.not_or, List.not_any_eq_all_not]
theorem any_step {p : Nat → Bool} {s : List Nat} {i m : Nat} (hm : s[i]? = some m) : (s.take (i + 1)).any p = ((s.take i).any p || p m) := by
  rw [List.take_add_one, hm, List.any_append]
  simp

set_option maxRecDepth 100000 in
set_option maxHeartbeats 8000000 in
theorem rRevert_any (a g b : Option Addr) (ca cg cb : Nat) (ps : List L) (h : List (List E)) (zs : List Int) (w : World) (hp : LinesAt w a ps) (hc : a = none → ca = 0) (hh : RowsEAt w g h) (hz : IntsAt w b zs) (hpl : ps.length ≤ 1000) (hhl : h.length ≤ 1000) (hm : ∀ x ∈ h, x.length ≤ 1000) (hzl : zs.length ≤ 1000) :
    Calls Try.prog 28 #[.slice a ps.length ca, .slice g h.length cg, .slice b zs.length cb] w (HandsRev (rvR ps h zs) (rvS ps h zs) (rvC ps h zs) w) := by
  have HV := Lib.hid (rHval_any a g ca cg ps h w hp hh hpl hhl hm)
  by_cases hv : vst ps h = 0
  · obtain ⟨i0, hi, hz0, hz1, hz2⟩ := info_parts info_int
    have h8 := (vst_ok hv).2.1
    have hp8 := (vp_ok (vst_ok hv).1).1
    have HP := Lib.hid hp
    have HH := Lib.hid hh
    have HY := Lib.hid hz
    have HZ := Lib.hid hv
    have HC := Lib.hid (fun W hW => rNeeds_any g cg h W hW h8 hm)
    have HK := Lib.hid (fun ns v cv w h1 h2 h3 (hl : ∀ n ∈ ns, n < h.length) h4 => rPlay_any a g v ca cg cv ps h ns w h1 hc h2 h3 hp8 (by omega) h4 (rok_of hv hl))
    have HRZ := Lib.hid (fun z w h => rHas4_any b cb zs z w h hzl)
    rw [hv] at HV
    clear hv hp hh hz hm hc
    go_enter Try.func28, Try.ntmps28
    go_wp2_with fail
    refine HV.out.mono ?_
    rintro e w1 ⟨rfl, hB⟩
    have HB := Lib.hid hB
    clear hB
    go_wp2_with fail
    go_loopw [10] (fun s10 wr => ∃ k : Nat, k ≤ zs.length ∧ s10 = .int .i64 k ∧ rvTo h.length zs k ∧ Below w.heap.size w wr) (fun s10 _ => zs.length - (intOf s10).toNat)
    case atStart => exact ⟨0, Nat.zero_le _, rfl, ⟨rfl, by simp⟩, HB.out⟩
    case round =>
      clear HB
      obtain ⟨k, hk, rfl, hT, hB⟩ := hrel
      have HT := Lib.hid hT
      have HB := Lib.hid hB
      clear hT
      by_cases hlt : k < zs.length
      · obtain ⟨b2, off2, z, rfl, hlb2, hzk, c0⟩ := (HY.out.below hB (Nat.le_refl _)).at_ hlt
        by_cases g0 : z < 0
        · obtain ⟨e1, e2, e3⟩ := rv_1 (ps := ps) HZ.out (rv_bad hzk (.inl g0))
          have HE := Lib.hid e1
          have HR := Lib.hid e2
          have HS := Lib.hid e3
          have d1 : decide (z < 0) = true := by simp; omega
          clear e1 e2 e3 hzk hB
          go_upto_region 7 with fail
          go_quiet (fail)
          go_wp2_with fail
          go_ret3
          rw [HE.out, HR.out, HS.out]
          exact ⟨none, 0, none, 0, rfl, .inl rfl, .inl rfl, below_drewN5 HB.out _⟩
        · have d1 : decide (z < 0) = false := by simp; omega
          by_cases g8 : (h.length : Int) ≤ z
          · obtain ⟨e1, e2, e3⟩ := rv_1 (ps := ps) HZ.out (rv_bad hzk (.inr g8))
            have HE := Lib.hid e1
            have HR := Lib.hid e2
            have HS := Lib.hid e3
            have d2 : decide ((h.length : Int) ≤ z) = true := by simp; omega
            clear e1 e2 e3 hzk hB
            go_upto_region 7 with fail
            go_quiet (fail)
            go_wp2_with fail
            go_ret3
            rw [HE.out, HR.out, HS.out]
            exact ⟨none, 0, none, 0, rfl, .inl rfl, .inl rfl, below_drewN5 HB.out _⟩
          · have d2 : decide ((h.length : Int) ≤ z) = false := by simp; omega
            have q0 : 0 ≤ z := by omega
            have q8 : z < (h.length : Int) := by omega
            by_cases hk0 : k = 0
            · have d3 : decide ((0 : Int) < (k : Int)) = false := by simp; omega
              have d4 : decide (0 < k) = false := by simp; omega
              have HT2 := Lib.hid (rvTo_step HT.out hzk q0 q8 (fun q y hq => by omega))
              clear hzk hB q0 q8 g0 g8 hk0
              go_upto_region 7 with fail
              go_quiet (fail)
              go_wp2_with fail
              go_roundw
              case rel => exact ⟨k + 1, by omega, by go_num, HT2.out, below_drewN5 HB.out _⟩
              case measure => simp [intOf]; omega
            · obtain ⟨q, hq⟩ : ∃ q, k = q + 1 := ⟨k - 1, by omega⟩
              subst hq
              obtain ⟨y, hy⟩ := get_of_lt (show q < zs.length by omega)
              have y0 : wr.cell? ⟨b2, off2 + q, none⟩ = some (.int .i64 y) := by
                obtain ⟨b3, off3, y', h31, _, h32, h33⟩ := (HY.out.below hB (Nat.le_refl _)).at_ (show q < zs.length by omega)
                injection h31 with h31
                injection h31 with h34 h35
                subst h34 h35
                rw [hy] at h32
                injection h32 with h32
                rw [h32]
                exact h33
              have d3 : decide ((0 : Int) < (q : Int) + 1) = true := by rw [decide_eq_true_iff]; omega
              have d4 : decide (0 < q + 1) = true := by simp
              have d6 : decide ((0 : Int) < ((q + 1 : Nat) : Int)) = true := by rw [decide_eq_true_iff]; omega
              by_cases gy : z ≤ y
              · obtain ⟨e1, e2, e3⟩ := rv_1 (ps := ps) HZ.out (rv_row hy hzk gy)
                have HE := Lib.hid e1
                have HR := Lib.hid e2
                have HS := Lib.hid e3
                have d5 : decide (z ≤ y) = true := by simpa using gy
                clear q0 q8 g0 g8 hk0 hy gy
                clear e1 e2 e3 hzk hB
                go_upto_region 7 with fail
                go_quiet (fail)
                go_wp2_with fail
                go_ret3
                rw [HE.out, HR.out, HS.out]
                exact ⟨none, 0, none, 0, rfl, .inl rfl, .inl rfl, below_drewN5 HB.out _⟩
              · have d5 : decide (z ≤ y) = false := by simp; omega
                have HT2 := Lib.hid (rvTo_step HT.out hzk q0 q8 (fun q' y' hq hy' => by obtain rfl : q' = q := (by omega); have := Option.some.inj (hy.symm.trans hy'); omega))
                clear hzk hB q0 q8 g0 g8 hk0 hy gy
                go_upto_region 7 with fail
                go_quiet (fail)
                go_wp2_with fail
                go_roundw
                case rel => exact ⟨q + 1 + 1, by omega, by go_num, HT2.out, below_drewN5 HB.out _⟩
                case measure => simp [intOf]; omega
      · obtain rfl : k = zs.length := by omega
        obtain ⟨e1, e2, e3, hzs, hsm⟩ := rv_0 HZ.out HT.out
        obtain ⟨s, hs⟩ : ∃ s, s = natS zs := ⟨_, rfl⟩
        rw [← hs] at hzs hsm e2 e3
        have HE1 := Lib.hid e1
        have HE2 := Lib.hid e2
        have HE3 := Lib.hid e3
        have HZS := Lib.hid hzs
        have HSM := Lib.hid hsm
        have hsl : s.length = zs.length := by rw [hzs, ints_len]
        have HB1 := Lib.hid hB
        clear e1 e2 e3 hzs hsm hs hB HB HT HV
        go_upto_region 9 with fail
        go_wp2_with fail
        refine (HC.out _ (HH.out.below HB1.out (Nat.le_refl _))).mono ?_
        rintro e w2 ⟨M, rfl, hM, hB⟩
        have HB2 := Lib.hid (HB1.out.trans (hB.mono HB1.out.size))
        have HM := Lib.hid hM
        clear hB hM HB1 HC
        go_wp2_with fail
        go_loopw [12, 13] (fun s12 s13 wr => ∃ k : Nat, k ≤ h.length ∧ s13 = .int .i64 k ∧ wr.ownsRow w2.heap.size 3 1 s12 (ints ((List.range k).filter (lefB h s))).length ((ints ((List.range k).filter (lefB h s))).map (Value.int .i64)) ∧ Below w2.heap.size w2 wr) (fun _ s13 _ => h.length - (intOf s13).toNat)
        case atStart => exact ⟨0, Nat.zero_le _, rfl, World.ownsRow_nil _ _ _ _, Below.refl _ _⟩
        case round =>
          obtain ⟨k, hk, rfl, hown, hB⟩ := hrel
          have HO := Lib.hid hown
          have HB := Lib.hid hB
          clear hown hB
          by_cases hlt : k < h.length
          · have hmt := (HM.out.resolve_left (by omega))
            obtain ⟨bt, rfl, hbl, hmc⟩ := hmt
            obtain ⟨gr, cr, c0, hgl, hmr⟩ := hmc k hlt
            have HMR := Lib.hid hmr
            have HC0 := Lib.hid c0
            have j0 : (0 : Int) ≤ (k : Int) := by omega
            have j1 : (k : Int) < (h.length : Int) := by omega
            have hlen := flt_len (lefB h s) k
            have HR0 := Lib.hid (HRZ.out (k : Int) wr (HY.out.below (HB2.out.trans (HB.out.mono HB2.out.size)) (Nat.le_refl _)))
            have hcon : hasB zs (k : Int) = s.contains k := by rw [HZS.out]; exact hasB_ints s k
            rw [hcon] at HR0
            clear hmc hmr c0 hcon
            go_wp2_with fail
            refine HR0.out.mono ?_
            rintro e w3 ⟨rfl, rfl⟩
            go_wp2_with fail
            obtain ⟨wo, hwo⟩ : ∃ wo, wo = wr := ⟨_, rfl⟩
            subst hwo
            clear HR0
            go_loopw [14, 15] (fun s14 s15 wr => ∃ i : Nat, i ≤ zs.length ∧ s15 = .int .i64 i ∧ s14 = .bool (s.contains k || (s.take i).any (ndB h k)) ∧ Below wo.heap.size wo wr) (fun _ s15 _ => zs.length - (intOf s15).toNat)
            case atStart => exact ⟨0, Nat.zero_le _, rfl, by simp, Below.refl _ _⟩
            case round =>
              obtain ⟨i, hi9, rfl, rfl, hB⟩ := hrel
              have HBi := Lib.hid hB
              clear hB
              by_cases hil : i < zs.length
              · have HBw := Lib.hid (HB2.out.trans ((HB.out.trans (HBi.out.mono HB.out.size)).mono HB2.out.size))
                have HBt := Lib.hid (HB.out.trans (HBi.out.mono HB.out.size))
                obtain ⟨b2, off2, z, rfl, hlb2, hzk, z0⟩ := (HY.out.below HBw.out (Nat.le_refl _)).at_ hil
                rw [HZS.out] at hzk
                obtain ⟨m, hmk, rfl⟩ := ints_get hzk
                have hml := HSM.out m (mem_of_get hmk)
                have q0 := (HBt.out.cell (p := ⟨bt, k, none⟩) hbl).trans HC0.out
                have q1 := (HBt.out.cell (p := ⟨gr, m, none⟩) hgl).trans (HMR.out m hml)
                have HN := Lib.hid (show (s.contains k || (s.take (i + 1)).any (ndB h k)) = ((s.contains k || (s.take i).any (ndB h k)) || ndB h k m) by rw [any_step hmk, Bool.or_assoc])
                have j2 : (0 : Int) ≤ (i : Int) := by omega
                have j3 : (i : Int) < (zs.length : Int) := by omega
                have j4 : (0 : Int) ≤ (m : Int) := by omega
                have j5 : (m : Int) < (h.length : Int) := by omega
                clear hzk hmk
                generalize (s.contains k || (s.take i).any (ndB h k)) = V at *
                generalize hN : ndB h k m = N at *
                clear hN
                cases V
                · go_wp2_with fail
                  go_quiet (fail)
                  go_wp2_with fail
                  go_roundw
                  case rel => exact ⟨i + 1, by omega, by go_num, by rw [HN.out]; rfl, below_drewN5 HBi.out _⟩
                  case measure => simp [intOf]; omega
                · go_wp2_with fail
                  go_quiet (fail)
                  go_wp2_with fail
                  go_roundw
                  case rel => exact ⟨i + 1, by omega, by go_num, by rw [HN.out]; rfl, below_drewN5 HBi.out _⟩
                  case measure => simp [intOf]; omega
              · obtain rfl : i = zs.length := by omega
                have hV : (s.contains k || (s.take zs.length).any (ndB h k)) = (s.contains k || s.any (ndB h k)) := by rw [← hsl, List.take_of_length_le (Nat.le_refl _)]
                rw [hV]
                have HV2 := Lib.hid (lefB_any h s k)
                have HO2 := Lib.hid (own_below HO.out HBi.out (Nat.le_refl _))
                have HB3 := Lib.hid (HB.out.trans (HBi.out.mono HB.out.size))
                clear hV HO HB HBi HC0 HMR hgl hbl
                generalize (s.contains k || s.any (ndB h k)) = V at *
                cases V
                · have HN := Lib.hid (flt_yes (p := lefB h s) (k := k) HV2.out.symm)
                  go_wp2_with (at_builtin; refine wpList_append_own _ rfl (.tmp 90) (.tmp 92) 35 rfl w2.heap.size 3 i0 (.int .i64 0) 1 8 Try.underlying35 hi hz0 hz1 hz2 rfl (by decide) _ _ _ rfl (HO2.out.alloc _) ⟨wr.heap.size, 0, none⟩ 1 1 [.int .i64 k] rfl rfl ?c1 ?c2 ?c3 ?c4 ?c5 ?_)
                  case c1 => exact cell_one_new _ _ _
                  case c2 => simp [Value.oneCell']
                  case c3 => unfold maxLen; omega
                  case c4 => omega
                  case c5 => have := HB3.out.size; simp; omega
                  intro v' w4 hown' hgrow _
                  have hB1 : Below w2.heap.size w2 w4 := (HB3.out.alloc HB3.out.size _).grown hgrow (by have := HB3.out.size; simp; omega) (own_base HO2.out)
                  have e : (ints ((List.range k).filter (lefB h s))).map (Value.int .i64) ++ [.int .i64 k] = (ints ((List.range (k + 1)).filter (lefB h s))).map (Value.int .i64) := by rw [HN.out]; simp
                  have e2 : (ints ((List.range k).filter (lefB h s))).length + 1 = (ints ((List.range (k + 1)).filter (lefB h s))).length := by rw [HN.out]; simp
                  rw [e, e2] at hown'
                  have HO4 := Lib.hid hown'
                  have HB4 := Lib.hid hB1
                  clear hown' hgrow e e2 hB1 HO2 HB3
                  go_wp2_with fail
                  go_roundw
                  case rel => exact ⟨k + 1, by omega, by go_num, HO4.out, HB4.out⟩
                  case measure => simp [intOf]; omega
                · have HN := Lib.hid (flt_no (p := lefB h s) (k := k) HV2.out.symm)
                  go_wp2_with fail
                  go_roundw
                  case rel => exact ⟨k + 1, by omega, by go_num, by rw [HN.out]; exact HO2.out, HB3.out⟩
                  case measure => simp [intOf]; omega
          · obtain rfl : k = h.length := by omega
            have HE := Lib.hid (show (List.range h.length).filter (lefB h s) = lefL h s from rfl)
            have hO9 := HO.out
            rw [HE.out] at hO9
            obtain ⟨av, cv, rfl⟩ := own_slice hO9
            have HI := Lib.hid (ints_of_own hO9).1
            have HB3 := Lib.hid (HB2.out.trans (HB.out.mono HB2.out.size))
            have hle : (lefL h s).length ≤ 1000 := by
              have := List.length_filter_le (lefB h s) (List.range h.length)
              rw [List.length_range, HE.out] at this
              omega
            have hlm : ∀ n ∈ lefL h s, n < h.length := fun n hn => by
              rw [← HE.out, List.mem_filter, List.mem_range] at hn
              exact hn.1
            have HK1 := Lib.hid (HK.out (lefL h s) av cv wr (HP.out.below HB3.out (Nat.le_refl _)) (HH.out.below HB3.out (Nat.le_refl _)) HI.out hlm hle)
            clear hO9 HO HM hlm hle HK
            have hll := ints_len (lefL h s)
            rw [hll]
            go_wp2_with fail
            refine HK1.out.mono ?_
            rintro e w4 ⟨a4, c4, rfl, ho, hB4⟩
            have HL := Lib.hid (lines_of_own ho).1
            have HI2 := Lib.hid (HI.out.below hB4 (Nat.le_refl _))
            have HB4 := Lib.hid (HB3.out.trans (hB4.mono HB3.out.size))
            clear ho hB4
            go_wp2_with fail
            go_ret3
            rw [HE1.out, HE2.out, HE3.out]
            exact ⟨a4, c4, av, cv, by rw [hll]; rfl, HL.out, HI2.out, HB4.out⟩
  · obtain ⟨e1, e2, e3⟩ := rv_v (zs := zs) hv
    rw [e1, e2, e3]
    have hz1 : (vst ps h != 0) = true := by simpa using hv
    clear hv hp hh hz hm hc e1 e2 e3
    generalize vst ps h = c at HV hz1 ⊢
    go_enter Try.func28, Try.ntmps28
    go_wp2_with fail
    refine HV.out.mono ?_
    rintro e w1 ⟨rfl, hB⟩
    have HB := Lib.hid hB
    clear hB
    go_wp2_with fail
    go_ret3
    exact ⟨none, 0, none, 0, rfl, .inl rfl, .inl rfl, HB.out⟩

end Go.Proofs.Ytikblaebfpdngaa
