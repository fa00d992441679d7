/- Several texts in one. -/
import Derived.Test.YtjciojoeifekeaaGreatSgA
import Derived.Test.YtjciojoeifekeaaGreatFxR
import Derived.Test.YtjciojoeifekeaaGreatNear
import Derived.Deep.RegionHeld
import Derived.Test.YtjciojoeifekeaaGreatRtm
import Derived.Test.YtjciojoeifekeaaGreatRfx
import Derived.Test.YtjciojoeifekeaaGreatSnr
import Derived.Test.YtjciojoeifekeaaGreatLng
import Derived.Test.YtjciojoeifekeaaGreatSkC
import Derived.Test.YtjciojoeifekeaaGreatMny
/- mutants, Mutants, kills, Kills of seek: contracts. -/
set_option linter.unusedVariables false
set_option linter.unusedSimpArgs false
namespace Go.Proofs.YtjciojoeifekeaaGreat
open Go.RowKit Go.Shelf Tinker
attribute [local go_sem] Oper.semAt_some

/-- Mutants; which tests kill one. -/
def muR (ps : List L) : List E := if vp ps = 0 then edL ps 0 else []
theorem edL_len9 (ps : List L) (n : Int) (hv : vp ps = 0) : (edL ps n).length ≤ 8000 := by
  have := edK_len ps n ps.length
  have := (vp_ok hv).1
  unfold edL
  omega
theorem muR_len (ps : List L) : (muR ps).length ≤ 8000 := by
  unfold muR
  split
  · rename_i h; exact edL_len9 ps 0 h
  · simp
def klC (ps : List L) (ts : List T) (m : E) : Int := if feL [feL [vp ps, vts ts], plC ps m.at_] = 0 then (if (isLn m.ln && nearB (lnD ps m.at_.toNat) m.ln) = true then 0 else 1) else feL [feL [vp ps, vts ts], plC ps m.at_]
def klR (ps : List L) (ts : List T) (m : E) : List Int := if klC ps ts m = 0 then trL true ps (doL ps [m]) ts else []
theorem klC_at {ps : List L} {ts : List T} {m : E} (h : feL [feL [vp ps, vts ts], plC ps m.at_] = 0) : vp ps = 0 ∧ vts ts = 0 ∧ ∃ (i : Nat) (x : L), m = ⟨(i : Int), x⟩ ∧ i < ps.length := by
  obtain ⟨h1, h2⟩ := fe2_ok h
  obtain ⟨h3, h4⟩ := fe2_ok h1
  obtain ⟨h5, h6⟩ := plc_ok h2
  refine ⟨h3, h4, m.at_.toNat, m.ln, ?_, by omega⟩
  have : ((m.at_.toNat : Nat) : Int) = m.at_ := by omega
  rw [this]
theorem tr_one {ps : List L} {ts : List T} {m : E} (h : vpx ps [m] 0 = 0) (ht : vts ts = 0) : trR true ps [m] ts = trL true ps (doL ps [m]) ts := by
  unfold trR
  rw [ht, if_pos h]

set_option maxRecDepth 100000 in
set_option maxHeartbeats 1000000 in
theorem smutants_any (a : Option Addr) (ca : Nat) (ps : List L) (w : World) (hp : LinesAt w a ps) (hv : vp ps = 0) :
    Calls Tryz.prog 58 #[.slice a ps.length ca] w (GivesEdits (edL ps 0) w) := by
  have H1 := Lib.hid (fun w h9 => sedits_any a ca ps 0 w h9 hv (by omega) (by omega))
  rw [show srcV 0 = .iface 114 (.agg #[]) from rfl] at H1
  have HP := Lib.hid hp
  generalize edL ps 0 = XS at *
  clear hp hv
  go_enter Tryz.func58, Tryz.ntmps58
  go_wp2_with fail
  refine (H1.out _ HP.out).mono ?_
  rintro e w1 ⟨a1, k1, rfl, hq, hB⟩
  have HO := Lib.hid hq
  have HB := Lib.hid hB
  clear hq hB
  go_wp2_with fail
  go_ret
  exact ⟨_, _, rfl, HO.out, HB.out⟩

set_option maxRecDepth 100000 in
set_option maxHeartbeats 1000000 in
theorem sMutants_any (a : Option Addr) (ca : Nat) (ps : List L) (w : World) (hp : LinesAt w a ps) (hm : ps.length ≤ 1000) :
    Calls Tryz.prog 28 #[.slice a ps.length ca] w (GivesEditsE (muR ps) (vp ps) w) := by
  have HV := Lib.hid (fun w h => validate_any a ca ps w h)
  have HP := Lib.hid hp
  unfold muR
  by_cases hv : vp ps = 0
  · have H1 := Lib.hid (fun w h9 => smutants_any a ca ps w h9 hv)
    rw [if_pos hv, hv]
    rw [hv] at HV
    generalize edL ps 0 = XS at *
    clear hp hv
    go_enter Tryz.func28, Tryz.ntmps28
    go_wp2_with fail
    refine (HV.out _ HP.out).mono ?_
    rintro e w0 ⟨rfl, hB⟩
    have HB0 := Lib.hid hB
    clear hB
    go_wp2_with fail
    refine (H1.out _ (HP.out.below HB0.out (Nat.le_refl _))).mono ?_
    rintro e w1 ⟨a1, k1, rfl, hq, hB⟩
    have HO := Lib.hid (own_mono hq HB0.out.size)
    have HB := Lib.hid (HB0.out.trans (hB.mono HB0.out.size))
    clear hq hB
    go_wp2_with fail
    go_ret2
    exact ⟨_, _, rfl, HO.out, HB.out⟩
  · rw [if_neg hv]
    generalize vp ps = q at *
    have hq1 : (q != 0) = true := by simpa using hv
    clear hp hv
    go_enter Tryz.func28, Tryz.ntmps28
    go_wp2_with fail
    refine (HV.out _ HP.out).mono ?_
    rintro e w0 ⟨rfl, hB⟩
    have HB0 := Lib.hid hB
    clear hB
    go_wp2_with fail
    go_ret2
    exact givesEditsE_nil HB0.out

theorem edit_size {w W0 : World} {x : E} (hW0 : W0 = w.alloc (.cells (eV x) 41)) : EditsAt (W0.alloc (.cells (eV x) 41)) (some ⟨w.heap.size + 1, 0, none⟩) [x] := by
  have h := edit_at W0 41 x
  rwa [show W0.heap.size = w.heap.size + 1 by rw [hW0]; simp] at h

set_option maxRecDepth 100000 in
set_option maxHeartbeats 2000000 in
theorem skills_any (a h : Option Addr) (ca ch : Nat) (ps : List L) (ts : List T) (m : E) (w : World) (hp : LinesAt w a ps) (hts : TestsAt w h ts) (hx : vpx ps [m] 0 = 0) (ht : vts ts = 0) :
    Calls Tryz.prog 61 #[.slice a ps.length ca, .slice h ts.length ch, .agg (eV m)] w (GivesInts (trL true ps (doL ps [m]) ts) w) := by
  obtain ⟨t8, hT⟩ := vts_ok ht
  have hml : ∀ t ∈ ts, t.inn.length ≤ 1000 := fun t h => by have := (vs_ok (isT_ok (hT t h)).1).1; omega
  have h8 := (vp_ok (vpx_ok hx).1).1
  have H1 := Lib.hid (fun g w h1 h2 h3 => pBreaks_any a g h ca 1 ch ps [m] ts w h1 h2 h3 (by simp) (by omega) hml (by omega))
  simp only [List.length_cons, List.length_nil, Nat.zero_add] at H1
  rw [tr_one hx ht, ht, hx] at H1
  generalize trL true ps (doL ps [m]) ts = R at *
  obtain ⟨W0, hW0⟩ : ∃ W, W = w.alloc (.cells (eV m) 41) := ⟨_, rfl⟩
  have hb : Below w.heap.size w W0 := by rw [hW0]; exact (Below.refl _ _).alloc (Nat.le_refl _) _
  have hX : W0.heap[w.heap.size]? = some (.cells (eV m) 41 (0, 0)) := by rw [hW0]; exact hp_new rfl
  have x0 := hp_cell hX (j := 0) (by rfl)
  have x1 := hp_cell hX (j := 1) (by rfl)
  have x2 := hp_cell hX (j := 2) (by rfl)
  have x3 := hp_cell hX (j := 3) (by rfl)
  have x4 := hp_cell hX (j := 4) (by rfl)
  have HX := Lib.hid (edit_size hW0)
  have hal := (Below.refl W0.heap.size W0).alloc (Nat.le_refl _) (.cells (eV m) 41)
  have HP := Lib.hid ((hp.below hb (Nat.le_refl _)).below hal (Nat.le_refl _))
  have HT := Lib.hid ((hts.below hb (Nat.le_refl _)).below hal (Nat.le_refl _))
  have HB := Lib.hid (hb.trans (hal.mono hb.size))
  clear hx ht hT hml h8 hb hX hal hp hts
  unfold eV at hW0 HX HP HT HB ⊢
  go_enter Tryz.func61, Tryz.ntmps61
  rw [hW0] at x0 x1 x2 x3 x4
  go_wp2_with fail
  rw [← hW0]
  clear hW0
  refine (H1.out _ _ HP.out HX.out HT.out).mono ?_
  rintro e w1 ⟨a1, k1, rfl, hq, hB⟩
  have HO := Lib.hid (own_mono hq HB.out.size)
  have HB := Lib.hid (HB.out.trans (hB.mono HB.out.size))
  clear hq hB x0 x1 x2 x3 x4
  go_wp2_with fail
  go_ret
  exact ⟨_, _, rfl, HO.out, HB.out⟩

set_option maxRecDepth 100000 in
set_option maxHeartbeats 8000000 in
theorem sKills_any (a h : Option Addr) (ca ch : Nat) (ps : List L) (ts : List T) (m : E) (ww : World) (hp : LinesAt ww a ps) (hts : TestsAt ww h ts) (hm : ps.length ≤ 1000) (hm2 : ts.length ≤ 1000) (hml : ∀ t ∈ ts, t.inn.length ≤ 1000) :
    Calls Tryz.prog 30 #[.slice a ps.length ca, .slice h ts.length ch, .agg (eV m)] ww (GivesIntsE (klR ps ts m) (klC ps ts m) ww) := by
  have H1 := Lib.hid (fun w h1 h2 => sValidateTests_any a h ca ch ps ts w h1 h2 hm hm2 hml)
  have H2 := Lib.hid (fun w => validatePlace_any a ca ps m.at_ w hm)
  have H3 := Lib.hid (fun g w h9 => firstError_any g 2 [feL [vp ps, vts ts], plC ps m.at_] w h9 (by simp))
  by_cases hz : feL [feL [vp ps, vts ts], plC ps m.at_] = 0
  · obtain ⟨v1, v2, i, x, rfl, hi⟩ := klC_at hz
    have hvl := (vp_ok v1).2
    have HLL := Lib.hid (fun (l : L) (hl : ps[i]? = some l) => (lnD_at hl).symm)
    have hln : isLn (lnD ps i) = true := by
      obtain ⟨l, hl⟩ := get_of_lt hi
      rw [lnD_at hl]
      exact hvl l (mem_of_get hl)
    have HN := Lib.hid (fun w => isNear_any (lnD ps i) x w hln)
    have HC := Lib.hid (show klC ps ts ⟨(i : Int), x⟩ = if (isLn x && nearB (lnD ps i) x) = true then 0 else 1 by
      unfold klC
      rw [if_pos hz]
      rfl)
    have HKL := Lib.hid (fun (hx : isLn x = true) w h1 h2 => skills_any a h ca ch ps ts ⟨(i : Int), x⟩ w h1 h2 (vpx_one v1 hi hx) v2)
    have HR := Lib.hid (show klR ps ts ⟨(i : Int), x⟩ = if klC ps ts ⟨(i : Int), x⟩ = 0 then trL true ps (doL ps [⟨(i : Int), x⟩]) ts else [] from rfl)
    rw [HR.out, HC.out]
    have hz' := hz
    dsimp only at H2 H3 hz'
    generalize trL true ps (doL ps [⟨(i : Int), x⟩]) ts = KL at *
    generalize feL [vp ps, vts ts] = d1 at *
    generalize plC ps (i : Int) = d2 at *
    obtain ⟨r, hr⟩ : ∃ r, (isLn x && nearB (lnD ps i) x) = r := ⟨_, rfl⟩
    rw [hr] at HN ⊢
    have HLR := Lib.hid (show r = true → isLn x = true from fun e => by rw [e] at hr; exact (Bool.and_eq_true _ _ ▸ hr).1)
    have hfe : feL [d1, d2] = 0 := hz'
    clear hz hz' hvl v1 v2 hln HC HR hr hml
    obtain ⟨W0, hW0⟩ : ∃ W, W = ww.alloc (.cells (eV ⟨(i : Int), x⟩) 41) := ⟨_, rfl⟩
    have hb : Below ww.heap.size ww W0 := by rw [hW0]; exact (Below.refl _ _).alloc (Nat.le_refl _) _
    have HX0 := Lib.hid (show W0.heap[ww.heap.size]? = some (.cells #[.int .i64 (i : Int), .int .i64 x.op, .int .i64 x.to, .int .i64 x.a, .int .i64 x.b] 41 (0, 0)) by rw [hW0]; exact hp_new rfl)
    have HP := Lib.hid (hp.below hb (Nat.le_refl _))
    have HT := Lib.hid (hts.below hb (Nat.le_refl _))
    have HB0 := Lib.hid hb
    clear hb hp hts
    unfold eV at hW0 ⊢
    unfold eV at HKL
    unfold lv at HN
    dsimp only at hW0 HKL ⊢
    cases r
    · show Calls _ _ _ _ (GivesIntsE [] 1 ww)
      go_enter Tryz.func30, Tryz.ntmps30
      go_wp2_with fail
      rw [← hW0]
      clear hW0
      rename_i Qb Kb hKb
      refine wp_region_held_drew (S := (fun W2 => Below W0.heap.size W0 W2)) (by kernel_rfl) ?_ (fun hHeld => ?_)
      · exact (Below.refl _ _).drew
      generalize W0.drew = Wd at *
      refine wpAnyH_take (i := 0) (oi := ?oiq1) (v := (.slice a ps.length ca)) ?hiq1 (by kernel_rfl) (by kernel_rfl) (by kernel_rfl) ?hqq1 ?hyq1 hHeld ?restq1
      case hiq1 => exact rfl
      case hqq1 => exact fun _ _ _ h => h
      case hyq1 =>
        refine Or.inl ⟨by rfl, ?_⟩
        intro w hSw
        go_simp
        (try with_reducible rfl)
      try simp only [Act.put, List.getElem_toArray, List.getElem_cons_succ, List.getElem_cons_zero, List.setIfInBounds_toArray, List.set_cons_zero, List.set_cons_succ]
      refine wpAnyH_take (i := 1) (oi := ?oiq2) (v := (.slice h ts.length ch)) ?hiq2 (by kernel_rfl) (by kernel_rfl) (by kernel_rfl) ?hqq2 ?hyq2 hHeld ?restq2
      case hiq2 => exact rfl
      case hqq2 => exact fun _ _ _ h => h
      case hyq2 =>
        refine Or.inl ⟨by rfl, ?_⟩
        intro w hSw
        go_simp
        (try with_reducible rfl)
      try simp only [Act.put, List.getElem_toArray, List.getElem_cons_succ, List.getElem_cons_zero, List.setIfInBounds_toArray, List.set_cons_zero, List.set_cons_succ]
      refine wpAnyH_take (i := 3) (oi := ?oiq3) (v := (.slice a ps.length ca)) ?hiq3 (by kernel_rfl) (by kernel_rfl) (by kernel_rfl) ?hqq3 ?hyq3 hHeld ?restq3
      case hiq3 => exact rfl
      case hqq3 => exact fun _ _ _ h => h
      case hyq3 =>
        refine Or.inl ⟨by rfl, ?_⟩
        intro w hSw
        go_simp
        (try with_reducible rfl)
      try simp only [Act.put, List.getElem_toArray, List.getElem_cons_succ, List.getElem_cons_zero, List.setIfInBounds_toArray, List.set_cons_zero, List.set_cons_succ]
      refine wpAnyH_take (i := 4) (oi := ?oiq4) (v := (.pointer (some ⟨ww.heap.size, 0, none⟩))) ?hiq4 (by kernel_rfl) (by kernel_rfl) (by kernel_rfl) ?hqq4 ?hyq4 hHeld ?restq4
      case hiq4 => exact rfl
      case hqq4 => exact fun _ _ _ h => h
      case hyq4 =>
        refine Or.inl ⟨by rfl, ?_⟩
        intro w hSw
        go_simp
        (try with_reducible rfl)
      try simp only [Act.put, List.getElem_toArray, List.getElem_cons_succ, List.getElem_cons_zero, List.setIfInBounds_toArray, List.set_cons_zero, List.set_cons_succ]
      refine wpAnyH_take (i := 5) (oi := ?oiq5) (v := (.int .i64 (i : Int))) ?hiq5 (by kernel_rfl) (by kernel_rfl) (by kernel_rfl) ?hqq5 ?hyq5 hHeld ?restq5
      case hiq5 => exact rfl
      case hqq5 => exact fun _ _ _ h => h
      case hyq5 =>
        refine Or.inl ⟨by rfl, ?_⟩
        intro w hSw
        have m0 := (hSw.cell (p := ⟨ww.heap.size, 0, none⟩) (hp_lt HX0.out)).trans (hp_cell HX0.out (j := 0) (by rfl))
        go_simp
        (try with_reducible rfl)
      try simp only [Act.put, List.getElem_toArray, List.getElem_cons_succ, List.getElem_cons_zero, List.setIfInBounds_toArray, List.set_cons_zero, List.set_cons_succ]
      refine wpAnyH_ready (rs := [2]) (by kernel_rfl) (by simp) ?_
      refine AllReadyH.cons (o := ?or11_2) ?hr11_2 ?kr11_2 AllReadyH.nil
      case hr11_2 => exact rfl
      case kr11_2 =>
        intro K hK
        go_simp
        refine (H1.out _ (HP.out.below hHeld (Nat.le_refl _)) (HT.out.below hHeld (Nat.le_refl _))).mono ?_
        rintro e w3 ⟨rfl, hB⟩
        have HH3 := Lib.hid (hHeld.trans (hB.mono hHeld.size))
        clear hB
        refine hK.out _ _ HH3.out (fun hHeld => ?_)
        clear hK K
        try simp only [Act.put, List.getElem_toArray, List.getElem_cons_succ, List.getElem_cons_zero, List.setIfInBounds_toArray, List.set_cons_zero, List.set_cons_succ]
        have hHeld := HH3.out
        refine wpAnyH_ready (rs := [6]) (by kernel_rfl) (by simp) ?_
        refine AllReadyH.cons (o := ?or10_6) ?hr10_6 ?kr10_6 AllReadyH.nil
        case hr10_6 => exact rfl
        case kr10_6 =>
          intro K hK
          go_simp
          refine (H2.out _).mono ?_
          rintro e w3b ⟨rfl, rfl⟩
          refine hK.out _ _ hHeld (fun hHeld => ?_)
          clear hK K
          try simp only [Act.put, List.getElem_toArray, List.getElem_cons_succ, List.getElem_cons_zero, List.setIfInBounds_toArray, List.set_cons_zero, List.set_cons_succ]
          refine wpAnyH_ready (rs := [7]) (by kernel_rfl) (by simp) ?_
          refine AllReadyH.cons (o := ?or9_7) ?hr9_7 ?kr9_7 AllReadyH.nil
          case hr9_7 => exact rfl
          case kr9_7 =>
            intro K hK
            go_simp
            have HI4 := Lib.hid (ints_lit' (w := w3) (zs := [d1, d2]) (t := 25) rfl)
            have HH := Lib.hid (hHeld.alloc hHeld.size (.cells (iv [d1, d2]) 25))
            refine hK.out _ _ HH.out (fun hHeld => ?_)
            clear hK K
            try simp only [Act.put, List.getElem_toArray, List.getElem_cons_succ, List.getElem_cons_zero, List.setIfInBounds_toArray, List.set_cons_zero, List.set_cons_succ]
            have hHeld := HH.out
            refine wpAnyH_ready (rs := [8]) (by kernel_rfl) (by simp) ?_
            refine AllReadyH.cons (o := ?or8_8) ?hr8_8 ?kr8_8 AllReadyH.nil
            case hr8_8 => exact rfl
            case kr8_8 =>
              intro K hK
              go_simp
              refine (H3.out _ _ HI4.out).mono ?_
              rintro e w4 ⟨rfl, rfl⟩
              refine hK.out _ _ hHeld (fun hHeld => ?_)
              clear hK K
              try simp only [Act.put, List.getElem_toArray, List.getElem_cons_succ, List.getElem_cons_zero, List.setIfInBounds_toArray, List.set_cons_zero, List.set_cons_succ]
              have hHeld4 := hHeld
              refine wpAnyH_take (i := 9) (oi := ?oiq7) (v := ?vq7) ?hiq7 (by kernel_rfl) (by kernel_rfl) (by kernel_rfl) ?hqq7 ?hyq7 hHeld ?restq7
              case hiq7 => exact rfl
              case hqq7 => exact fun _ _ _ h => h
              case hyq7 =>
                refine Or.inl ⟨by rfl, ?_⟩
                intro w hSw
                go_simp
                (try with_reducible rfl)
              try simp only [Act.put, List.getElem_toArray, List.getElem_cons_succ, List.getElem_cons_zero, List.setIfInBounds_toArray, List.set_cons_zero, List.set_cons_succ]
              refine wpAnyH_done (by kernel_rfl) ?_ _
              clear hHeld
              refine hKb _ _ ?_
              have HB4 := Lib.hid hHeld4
              rw [hfe]
              have HX4 := Lib.hid (hp_below HX0.out HB4.out (hp_lt HX0.out))
              have HP4 := Lib.hid (HP.out.below HB4.out (Nat.le_refl _))
              have HT4 := Lib.hid (HT.out.below HB4.out (Nat.le_refl _))
              have HB5 := Lib.hid (HB0.out.trans (HB4.out.mono HB0.out.size))
              skip
              generalize (w3.alloc (.cells (iv [d1, d2]) 25)) = wr at *
              obtain ⟨b, off, l, rfl, hlb, hl, c0, c1, c2, c3⟩ := HP4.out.at_ hi
              have hll := HLL.out l hl
              rw [← hll] at HN
              clear hl hll
              have x0 := hp_cell HX4.out (j := 0) (by rfl)
              have x1 := hp_cell HX4.out (j := 1) (by rfl)
              have x2 := hp_cell HX4.out (j := 2) (by rfl)
              have x3 := hp_cell HX4.out (j := 3) (by rfl)
              have x4 := hp_cell HX4.out (j := 4) (by rfl)
              have hlx := hp_lt HX4.out
              have i1 : (0 : Int) ≤ (i : Int) := by omega
              have i2 : (i : Int) < (ps.length : Int) := by omega
              go_upto_region 5 with fail
              go_cut [29] (fun s29 wx => s29 = .bool true ∧ Below wr.heap.size wr wx)
              case first =>
                go_region_held3 (fun w' => w'.cell? ⟨b, off + i * 4, none⟩ = some (.int .i64 l.op) ∧ w'.cell? ⟨b, off + i * 4 + 1, none⟩ = some (.int .i64 l.to) ∧ w'.cell? ⟨b, off + i * 4 + 2, none⟩ = some (.int .i64 l.a) ∧ w'.cell? ⟨b, off + i * 4 + 3, none⟩ = some (.int .i64 l.b) ∧ w'.cell? ⟨ww.heap.size, 0, none⟩ = some (.int .i64 (i : Int)) ∧ w'.cell? ⟨ww.heap.size, 1, none⟩ = some (.int .i64 x.op) ∧ w'.cell? ⟨ww.heap.size, 2, none⟩ = some (.int .i64 x.to) ∧ w'.cell? ⟨ww.heap.size, 3, none⟩ = some (.int .i64 x.a) ∧ w'.cell? ⟨ww.heap.size, 4, none⟩ = some (.int .i64 x.b)) (first | exact ⟨c0, c1, c2, c3, x0, x1, x2, x3, x4⟩ | exact ⟨(hBa.cell (p := ⟨b, _, none⟩) hlb).trans c0, (hBa.cell (p := ⟨b, _, none⟩) hlb).trans c1, (hBa.cell (p := ⟨b, _, none⟩) hlb).trans c2, (hBa.cell (p := ⟨b, _, none⟩) hlb).trans c3, (hBa.cell (p := ⟨ww.heap.size, _, none⟩) hlx).trans x0, (hBa.cell (p := ⟨ww.heap.size, _, none⟩) hlx).trans x1, (hBa.cell (p := ⟨ww.heap.size, _, none⟩) hlx).trans x2, (hBa.cell (p := ⟨ww.heap.size, _, none⟩) hlx).trans x3, (hBa.cell (p := ⟨ww.heap.size, _, none⟩) hlx).trans x4⟩ | go_keep) ((go_at_call 39; refine (HN.out _).mono ?_; rintro e wa ⟨rfl, hBa⟩))
                all_goals go_wp2_with fail
                all_goals go_meet
                all_goals exact ⟨rfl, (Below.refl _ _).drew.trans (hBa.mono (Nat.le_refl _))⟩
              case rest =>
              obtain ⟨rfl, hbd⟩ := hcut
              have HX5 := Lib.hid (hp_below HX4.out hbd (hp_lt HX4.out))
              have HP5 := Lib.hid (HP4.out.below hbd (Nat.le_refl _))
              have HT5 := Lib.hid (HT4.out.below hbd (Nat.le_refl _))
              have HB6 := Lib.hid (HB5.out.trans (hbd.mono HB5.out.size))
              clear hbd c0 c1 c2 c3 x0 x1 x2 x3 x4
              go_wp2_with fail
              go_ret2
              exact givesIntsE_nil HB6.out
    · show Calls _ _ _ _ (GivesIntsE KL 0 ww)
      go_enter Tryz.func30, Tryz.ntmps30
      go_wp2_with fail
      rw [← hW0]
      clear hW0
      rename_i Qb Kb hKb
      refine wp_region_held_drew (S := (fun W2 => Below W0.heap.size W0 W2)) (by kernel_rfl) ?_ (fun hHeld => ?_)
      · exact (Below.refl _ _).drew
      generalize W0.drew = Wd at *
      refine wpAnyH_take (i := 0) (oi := ?oiq12) (v := (.slice a ps.length ca)) ?hiq12 (by kernel_rfl) (by kernel_rfl) (by kernel_rfl) ?hqq12 ?hyq12 hHeld ?restq12
      case hiq12 => exact rfl
      case hqq12 => exact fun _ _ _ h => h
      case hyq12 =>
        refine Or.inl ⟨by rfl, ?_⟩
        intro w hSw
        go_simp
        (try with_reducible rfl)
      try simp only [Act.put, List.getElem_toArray, List.getElem_cons_succ, List.getElem_cons_zero, List.setIfInBounds_toArray, List.set_cons_zero, List.set_cons_succ]
      refine wpAnyH_take (i := 1) (oi := ?oiq13) (v := (.slice h ts.length ch)) ?hiq13 (by kernel_rfl) (by kernel_rfl) (by kernel_rfl) ?hqq13 ?hyq13 hHeld ?restq13
      case hiq13 => exact rfl
      case hqq13 => exact fun _ _ _ h => h
      case hyq13 =>
        refine Or.inl ⟨by rfl, ?_⟩
        intro w hSw
        go_simp
        (try with_reducible rfl)
      try simp only [Act.put, List.getElem_toArray, List.getElem_cons_succ, List.getElem_cons_zero, List.setIfInBounds_toArray, List.set_cons_zero, List.set_cons_succ]
      refine wpAnyH_take (i := 3) (oi := ?oiq14) (v := (.slice a ps.length ca)) ?hiq14 (by kernel_rfl) (by kernel_rfl) (by kernel_rfl) ?hqq14 ?hyq14 hHeld ?restq14
      case hiq14 => exact rfl
      case hqq14 => exact fun _ _ _ h => h
      case hyq14 =>
        refine Or.inl ⟨by rfl, ?_⟩
        intro w hSw
        go_simp
        (try with_reducible rfl)
      try simp only [Act.put, List.getElem_toArray, List.getElem_cons_succ, List.getElem_cons_zero, List.setIfInBounds_toArray, List.set_cons_zero, List.set_cons_succ]
      refine wpAnyH_take (i := 4) (oi := ?oiq15) (v := (.pointer (some ⟨ww.heap.size, 0, none⟩))) ?hiq15 (by kernel_rfl) (by kernel_rfl) (by kernel_rfl) ?hqq15 ?hyq15 hHeld ?restq15
      case hiq15 => exact rfl
      case hqq15 => exact fun _ _ _ h => h
      case hyq15 =>
        refine Or.inl ⟨by rfl, ?_⟩
        intro w hSw
        go_simp
        (try with_reducible rfl)
      try simp only [Act.put, List.getElem_toArray, List.getElem_cons_succ, List.getElem_cons_zero, List.setIfInBounds_toArray, List.set_cons_zero, List.set_cons_succ]
      refine wpAnyH_take (i := 5) (oi := ?oiq16) (v := (.int .i64 (i : Int))) ?hiq16 (by kernel_rfl) (by kernel_rfl) (by kernel_rfl) ?hqq16 ?hyq16 hHeld ?restq16
      case hiq16 => exact rfl
      case hqq16 => exact fun _ _ _ h => h
      case hyq16 =>
        refine Or.inl ⟨by rfl, ?_⟩
        intro w hSw
        have m0 := (hSw.cell (p := ⟨ww.heap.size, 0, none⟩) (hp_lt HX0.out)).trans (hp_cell HX0.out (j := 0) (by rfl))
        go_simp
        (try with_reducible rfl)
      try simp only [Act.put, List.getElem_toArray, List.getElem_cons_succ, List.getElem_cons_zero, List.setIfInBounds_toArray, List.set_cons_zero, List.set_cons_succ]
      refine wpAnyH_ready (rs := [2]) (by kernel_rfl) (by simp) ?_
      refine AllReadyH.cons (o := ?or22_2) ?hr22_2 ?kr22_2 AllReadyH.nil
      case hr22_2 => exact rfl
      case kr22_2 =>
        intro K hK
        go_simp
        refine (H1.out _ (HP.out.below hHeld (Nat.le_refl _)) (HT.out.below hHeld (Nat.le_refl _))).mono ?_
        rintro e w3 ⟨rfl, hB⟩
        have HH3 := Lib.hid (hHeld.trans (hB.mono hHeld.size))
        clear hB
        refine hK.out _ _ HH3.out (fun hHeld => ?_)
        clear hK K
        try simp only [Act.put, List.getElem_toArray, List.getElem_cons_succ, List.getElem_cons_zero, List.setIfInBounds_toArray, List.set_cons_zero, List.set_cons_succ]
        have hHeld := HH3.out
        refine wpAnyH_ready (rs := [6]) (by kernel_rfl) (by simp) ?_
        refine AllReadyH.cons (o := ?or21_6) ?hr21_6 ?kr21_6 AllReadyH.nil
        case hr21_6 => exact rfl
        case kr21_6 =>
          intro K hK
          go_simp
          refine (H2.out _).mono ?_
          rintro e w3b ⟨rfl, rfl⟩
          refine hK.out _ _ hHeld (fun hHeld => ?_)
          clear hK K
          try simp only [Act.put, List.getElem_toArray, List.getElem_cons_succ, List.getElem_cons_zero, List.setIfInBounds_toArray, List.set_cons_zero, List.set_cons_succ]
          refine wpAnyH_ready (rs := [7]) (by kernel_rfl) (by simp) ?_
          refine AllReadyH.cons (o := ?or20_7) ?hr20_7 ?kr20_7 AllReadyH.nil
          case hr20_7 => exact rfl
          case kr20_7 =>
            intro K hK
            go_simp
            have HI4 := Lib.hid (ints_lit' (w := w3) (zs := [d1, d2]) (t := 25) rfl)
            have HH := Lib.hid (hHeld.alloc hHeld.size (.cells (iv [d1, d2]) 25))
            refine hK.out _ _ HH.out (fun hHeld => ?_)
            clear hK K
            try simp only [Act.put, List.getElem_toArray, List.getElem_cons_succ, List.getElem_cons_zero, List.setIfInBounds_toArray, List.set_cons_zero, List.set_cons_succ]
            have hHeld := HH.out
            refine wpAnyH_ready (rs := [8]) (by kernel_rfl) (by simp) ?_
            refine AllReadyH.cons (o := ?or19_8) ?hr19_8 ?kr19_8 AllReadyH.nil
            case hr19_8 => exact rfl
            case kr19_8 =>
              intro K hK
              go_simp
              refine (H3.out _ _ HI4.out).mono ?_
              rintro e w4 ⟨rfl, rfl⟩
              refine hK.out _ _ hHeld (fun hHeld => ?_)
              clear hK K
              try simp only [Act.put, List.getElem_toArray, List.getElem_cons_succ, List.getElem_cons_zero, List.setIfInBounds_toArray, List.set_cons_zero, List.set_cons_succ]
              have hHeld4 := hHeld
              refine wpAnyH_take (i := 9) (oi := ?oiq18) (v := ?vq18) ?hiq18 (by kernel_rfl) (by kernel_rfl) (by kernel_rfl) ?hqq18 ?hyq18 hHeld ?restq18
              case hiq18 => exact rfl
              case hqq18 => exact fun _ _ _ h => h
              case hyq18 =>
                refine Or.inl ⟨by rfl, ?_⟩
                intro w hSw
                go_simp
                (try with_reducible rfl)
              try simp only [Act.put, List.getElem_toArray, List.getElem_cons_succ, List.getElem_cons_zero, List.setIfInBounds_toArray, List.set_cons_zero, List.set_cons_succ]
              refine wpAnyH_done (by kernel_rfl) ?_ _
              clear hHeld
              refine hKb _ _ ?_
              have HB4 := Lib.hid hHeld4
              rw [hfe]
              have HX4 := Lib.hid (hp_below HX0.out HB4.out (hp_lt HX0.out))
              have HP4 := Lib.hid (HP.out.below HB4.out (Nat.le_refl _))
              have HT4 := Lib.hid (HT.out.below HB4.out (Nat.le_refl _))
              have HB5 := Lib.hid (HB0.out.trans (HB4.out.mono HB0.out.size))
              skip
              generalize (w3.alloc (.cells (iv [d1, d2]) 25)) = wr at *
              obtain ⟨b, off, l, rfl, hlb, hl, c0, c1, c2, c3⟩ := HP4.out.at_ hi
              have hll := HLL.out l hl
              rw [← hll] at HN
              clear hl hll
              have x0 := hp_cell HX4.out (j := 0) (by rfl)
              have x1 := hp_cell HX4.out (j := 1) (by rfl)
              have x2 := hp_cell HX4.out (j := 2) (by rfl)
              have x3 := hp_cell HX4.out (j := 3) (by rfl)
              have x4 := hp_cell HX4.out (j := 4) (by rfl)
              have hlx := hp_lt HX4.out
              have i1 : (0 : Int) ≤ (i : Int) := by omega
              have i2 : (i : Int) < (ps.length : Int) := by omega
              go_upto_region 5 with fail
              go_cut [29] (fun s29 wx => s29 = .bool false ∧ Below wr.heap.size wr wx)
              case first =>
                go_region_held3 (fun w' => w'.cell? ⟨b, off + i * 4, none⟩ = some (.int .i64 l.op) ∧ w'.cell? ⟨b, off + i * 4 + 1, none⟩ = some (.int .i64 l.to) ∧ w'.cell? ⟨b, off + i * 4 + 2, none⟩ = some (.int .i64 l.a) ∧ w'.cell? ⟨b, off + i * 4 + 3, none⟩ = some (.int .i64 l.b) ∧ w'.cell? ⟨ww.heap.size, 0, none⟩ = some (.int .i64 (i : Int)) ∧ w'.cell? ⟨ww.heap.size, 1, none⟩ = some (.int .i64 x.op) ∧ w'.cell? ⟨ww.heap.size, 2, none⟩ = some (.int .i64 x.to) ∧ w'.cell? ⟨ww.heap.size, 3, none⟩ = some (.int .i64 x.a) ∧ w'.cell? ⟨ww.heap.size, 4, none⟩ = some (.int .i64 x.b)) (first | exact ⟨c0, c1, c2, c3, x0, x1, x2, x3, x4⟩ | exact ⟨(hBa.cell (p := ⟨b, _, none⟩) hlb).trans c0, (hBa.cell (p := ⟨b, _, none⟩) hlb).trans c1, (hBa.cell (p := ⟨b, _, none⟩) hlb).trans c2, (hBa.cell (p := ⟨b, _, none⟩) hlb).trans c3, (hBa.cell (p := ⟨ww.heap.size, _, none⟩) hlx).trans x0, (hBa.cell (p := ⟨ww.heap.size, _, none⟩) hlx).trans x1, (hBa.cell (p := ⟨ww.heap.size, _, none⟩) hlx).trans x2, (hBa.cell (p := ⟨ww.heap.size, _, none⟩) hlx).trans x3, (hBa.cell (p := ⟨ww.heap.size, _, none⟩) hlx).trans x4⟩ | go_keep) ((go_at_call 39; refine (HN.out _).mono ?_; rintro e wa ⟨rfl, hBa⟩))
                all_goals go_wp2_with fail
                all_goals go_meet
                all_goals exact ⟨rfl, (Below.refl _ _).drew.trans (hBa.mono (Nat.le_refl _))⟩
              case rest =>
              obtain ⟨rfl, hbd⟩ := hcut
              have HX5 := Lib.hid (hp_below HX4.out hbd (hp_lt HX4.out))
              have HP5 := Lib.hid (HP4.out.below hbd (Nat.le_refl _))
              have HT5 := Lib.hid (HT4.out.below hbd (Nat.le_refl _))
              have HB6 := Lib.hid (HB5.out.trans (hbd.mono HB5.out.size))
              clear hbd c0 c1 c2 c3 x0 x1 x2 x3 x4
              have HK1 := Lib.hid (HKL.out (HLR.out (by first | trivial | rfl)))
              have x0 := hp_cell HX5.out (j := 0) (by rfl)
              have x1 := hp_cell HX5.out (j := 1) (by rfl)
              have x2 := hp_cell HX5.out (j := 2) (by rfl)
              have x3 := hp_cell HX5.out (j := 3) (by rfl)
              have x4 := hp_cell HX5.out (j := 4) (by rfl)
              go_wp2_with fail
              refine (HK1.out _ HP5.out HT5.out).mono ?_
              rintro e w9 ⟨a9, k9, rfl, hq, hB⟩
              have HO := Lib.hid (own_mono hq HB6.out.size)
              have HB7 := Lib.hid (HB6.out.trans (hB.mono HB6.out.size))
              clear hq hB
              go_wp2_with fail
              go_ret2
              exact ⟨_, _, rfl, HO.out, HB7.out⟩
  · have hfe : klC ps ts m = feL [feL [vp ps, vts ts], plC ps m.at_] := by unfold klC; rw [if_neg hz]
    rw [show klR ps ts m = [] by unfold klR; rw [if_neg (by rw [hfe]; exact hz)], hfe]
    generalize feL [vp ps, vts ts] = d1 at *
    generalize plC ps m.at_ = d2 at *
    have hq1 : (feL [d1, d2] != 0) = true := by simpa using hz
    clear hz hfe hml
    obtain ⟨W0, hW0⟩ : ∃ W, W = ww.alloc (.cells (eV m) 41) := ⟨_, rfl⟩
    have hb : Below ww.heap.size ww W0 := by rw [hW0]; exact (Below.refl _ _).alloc (Nat.le_refl _) _
    have HX0 := Lib.hid (show W0.heap[ww.heap.size]? = some (.cells #[.int .i64 m.at_, .int .i64 m.ln.op, .int .i64 m.ln.to, .int .i64 m.ln.a, .int .i64 m.ln.b] 41 (0, 0)) by rw [hW0]; exact hp_new rfl)
    have HP := Lib.hid (hp.below hb (Nat.le_refl _))
    have HT := Lib.hid (hts.below hb (Nat.le_refl _))
    have HB0 := Lib.hid hb
    clear hb hp hts
    unfold eV at hW0 ⊢
    go_enter Tryz.func30, Tryz.ntmps30
    go_wp2_with fail
    rw [← hW0]
    clear hW0
    rename_i Qb Kb hKb
    refine wp_region_held_drew (S := (fun W2 => Below W0.heap.size W0 W2)) (by kernel_rfl) ?_ (fun hHeld => ?_)
    · exact (Below.refl _ _).drew
    generalize W0.drew = Wd at *
    refine wpAnyH_take (i := 0) (oi := ?oiq23) (v := (.slice a ps.length ca)) ?hiq23 (by kernel_rfl) (by kernel_rfl) (by kernel_rfl) ?hqq23 ?hyq23 hHeld ?restq23
    case hiq23 => exact rfl
    case hqq23 => exact fun _ _ _ h => h
    case hyq23 =>
      refine Or.inl ⟨by rfl, ?_⟩
      intro w hSw
      go_simp
      (try with_reducible rfl)
    try simp only [Act.put, List.getElem_toArray, List.getElem_cons_succ, List.getElem_cons_zero, List.setIfInBounds_toArray, List.set_cons_zero, List.set_cons_succ]
    refine wpAnyH_take (i := 1) (oi := ?oiq24) (v := (.slice h ts.length ch)) ?hiq24 (by kernel_rfl) (by kernel_rfl) (by kernel_rfl) ?hqq24 ?hyq24 hHeld ?restq24
    case hiq24 => exact rfl
    case hqq24 => exact fun _ _ _ h => h
    case hyq24 =>
      refine Or.inl ⟨by rfl, ?_⟩
      intro w hSw
      go_simp
      (try with_reducible rfl)
    try simp only [Act.put, List.getElem_toArray, List.getElem_cons_succ, List.getElem_cons_zero, List.setIfInBounds_toArray, List.set_cons_zero, List.set_cons_succ]
    refine wpAnyH_take (i := 3) (oi := ?oiq25) (v := (.slice a ps.length ca)) ?hiq25 (by kernel_rfl) (by kernel_rfl) (by kernel_rfl) ?hqq25 ?hyq25 hHeld ?restq25
    case hiq25 => exact rfl
    case hqq25 => exact fun _ _ _ h => h
    case hyq25 =>
      refine Or.inl ⟨by rfl, ?_⟩
      intro w hSw
      go_simp
      (try with_reducible rfl)
    try simp only [Act.put, List.getElem_toArray, List.getElem_cons_succ, List.getElem_cons_zero, List.setIfInBounds_toArray, List.set_cons_zero, List.set_cons_succ]
    refine wpAnyH_take (i := 4) (oi := ?oiq26) (v := (.pointer (some ⟨ww.heap.size, 0, none⟩))) ?hiq26 (by kernel_rfl) (by kernel_rfl) (by kernel_rfl) ?hqq26 ?hyq26 hHeld ?restq26
    case hiq26 => exact rfl
    case hqq26 => exact fun _ _ _ h => h
    case hyq26 =>
      refine Or.inl ⟨by rfl, ?_⟩
      intro w hSw
      go_simp
      (try with_reducible rfl)
    try simp only [Act.put, List.getElem_toArray, List.getElem_cons_succ, List.getElem_cons_zero, List.setIfInBounds_toArray, List.set_cons_zero, List.set_cons_succ]
    refine wpAnyH_take (i := 5) (oi := ?oiq27) (v := (.int .i64 m.at_)) ?hiq27 (by kernel_rfl) (by kernel_rfl) (by kernel_rfl) ?hqq27 ?hyq27 hHeld ?restq27
    case hiq27 => exact rfl
    case hqq27 => exact fun _ _ _ h => h
    case hyq27 =>
      refine Or.inl ⟨by rfl, ?_⟩
      intro w hSw
      have m0 := (hSw.cell (p := ⟨ww.heap.size, 0, none⟩) (hp_lt HX0.out)).trans (hp_cell HX0.out (j := 0) (by rfl))
      go_simp
      (try with_reducible rfl)
    try simp only [Act.put, List.getElem_toArray, List.getElem_cons_succ, List.getElem_cons_zero, List.setIfInBounds_toArray, List.set_cons_zero, List.set_cons_succ]
    refine wpAnyH_ready (rs := [2]) (by kernel_rfl) (by simp) ?_
    refine AllReadyH.cons (o := ?or33_2) ?hr33_2 ?kr33_2 AllReadyH.nil
    case hr33_2 => exact rfl
    case kr33_2 =>
      intro K hK
      go_simp
      refine (H1.out _ (HP.out.below hHeld (Nat.le_refl _)) (HT.out.below hHeld (Nat.le_refl _))).mono ?_
      rintro e w3 ⟨rfl, hB⟩
      have HH3 := Lib.hid (hHeld.trans (hB.mono hHeld.size))
      clear hB
      refine hK.out _ _ HH3.out (fun hHeld => ?_)
      clear hK K
      try simp only [Act.put, List.getElem_toArray, List.getElem_cons_succ, List.getElem_cons_zero, List.setIfInBounds_toArray, List.set_cons_zero, List.set_cons_succ]
      have hHeld := HH3.out
      refine wpAnyH_ready (rs := [6]) (by kernel_rfl) (by simp) ?_
      refine AllReadyH.cons (o := ?or32_6) ?hr32_6 ?kr32_6 AllReadyH.nil
      case hr32_6 => exact rfl
      case kr32_6 =>
        intro K hK
        go_simp
        refine (H2.out _).mono ?_
        rintro e w3b ⟨rfl, rfl⟩
        refine hK.out _ _ hHeld (fun hHeld => ?_)
        clear hK K
        try simp only [Act.put, List.getElem_toArray, List.getElem_cons_succ, List.getElem_cons_zero, List.setIfInBounds_toArray, List.set_cons_zero, List.set_cons_succ]
        refine wpAnyH_ready (rs := [7]) (by kernel_rfl) (by simp) ?_
        refine AllReadyH.cons (o := ?or31_7) ?hr31_7 ?kr31_7 AllReadyH.nil
        case hr31_7 => exact rfl
        case kr31_7 =>
          intro K hK
          go_simp
          have HI4 := Lib.hid (ints_lit' (w := w3) (zs := [d1, d2]) (t := 25) rfl)
          have HH := Lib.hid (hHeld.alloc hHeld.size (.cells (iv [d1, d2]) 25))
          refine hK.out _ _ HH.out (fun hHeld => ?_)
          clear hK K
          try simp only [Act.put, List.getElem_toArray, List.getElem_cons_succ, List.getElem_cons_zero, List.setIfInBounds_toArray, List.set_cons_zero, List.set_cons_succ]
          have hHeld := HH.out
          refine wpAnyH_ready (rs := [8]) (by kernel_rfl) (by simp) ?_
          refine AllReadyH.cons (o := ?or30_8) ?hr30_8 ?kr30_8 AllReadyH.nil
          case hr30_8 => exact rfl
          case kr30_8 =>
            intro K hK
            go_simp
            refine (H3.out _ _ HI4.out).mono ?_
            rintro e w4 ⟨rfl, rfl⟩
            refine hK.out _ _ hHeld (fun hHeld => ?_)
            clear hK K
            try simp only [Act.put, List.getElem_toArray, List.getElem_cons_succ, List.getElem_cons_zero, List.setIfInBounds_toArray, List.set_cons_zero, List.set_cons_succ]
            have hHeld4 := hHeld
            refine wpAnyH_take (i := 9) (oi := ?oiq29) (v := ?vq29) ?hiq29 (by kernel_rfl) (by kernel_rfl) (by kernel_rfl) ?hqq29 ?hyq29 hHeld ?restq29
            case hiq29 => exact rfl
            case hqq29 => exact fun _ _ _ h => h
            case hyq29 =>
              refine Or.inl ⟨by rfl, ?_⟩
              intro w hSw
              go_simp
              (try with_reducible rfl)
            try simp only [Act.put, List.getElem_toArray, List.getElem_cons_succ, List.getElem_cons_zero, List.setIfInBounds_toArray, List.set_cons_zero, List.set_cons_succ]
            refine wpAnyH_done (by kernel_rfl) ?_ _
            clear hHeld
            refine hKb _ _ ?_
            have HB4 := Lib.hid hHeld4
            generalize feL [d1, d2] = q at *
            go_wp2_with fail
            go_ret2
            exact givesIntsE_nil (HB0.out.trans (HB4.out.mono HB0.out.size))

end Go.Proofs.YtjciojoeifekeaaGreat

/- mutants, Mutants, kills of the document (package tinkerref05): contracts. -/
set_option linter.unusedVariables false
set_option linter.unusedSimpArgs false
namespace Go.Proofs.YtjciojoeifekeaaGreat
open Go.RowKit Go.Shelf Tinker

theorem cnd_tmpl (ps : List L) (i : Nat) : cndL ps i 0 = tmpl (lnD ps i) := by
  rw [cnd_filter]
  unfold tmpl
  refine List.filter_congr fun m _ => ?_
  unfold isKd
  rw [if_pos rfl]
  cases hn : nearB (lnD ps i) m
  · rfl
  · rw [eqL_false (near_ne hn)]
    rfl

set_option maxRecDepth 100000 in
set_option maxHeartbeats 4000000 in
theorem rmutants_any (a : Option Addr) (ca : Nat) (ps : List L) (w : World) (hp : LinesAt w a ps) (hv : vp ps = 0) :
    Calls Tryz.prog 60 #[.slice a ps.length ca] w (GivesEdits (edL ps 0) w) := by
  obtain ⟨i0, hI, hz0, hz1, hz2⟩ := info_parts info_edit
  obtain ⟨h8, hvl⟩ := vp_ok hv
  have HC := Lib.hid (fun (l : L) w (hl : isLn l = true) => rtemplates_any l w hl)
  have HVL := Lib.hid hvl
  have HP := Lib.hid hp
  have HS := Lib.hid (edK_succ ps 0)
  have HL := Lib.hid (edK_len ps 0)
  have HCL := Lib.hid (fun i => cnd_len9 ps i 0)
  have HCT := Lib.hid (fun i l (hl : ps[i]? = some l) => show cndL ps i 0 = tmpl l by rw [cnd_tmpl, lnD_at hl])
  have HZ := Lib.hid (show edK ps 0 0 = [] from rfl)
  unfold edL
  generalize edK ps 0 = ed at *
  clear hv hp hvl
  go_enter Tryz.func60, Tryz.ntmps60
  go_wp2_with fail
  go_loopw [3, 4] (fun s3 s4 wr => ∃ k : Nat, k ≤ ps.length ∧ s4 = .int .i64 (k : Int) ∧ wr.ownsRow w.heap.size 41 5 s3 (ed k).length (ec (ed k)) ∧ Below w.heap.size w wr) (fun _ s4 _ => ps.length - (intOf s4).toNat)
  case atStart => exact ⟨0, Nat.zero_le _, rfl, by rw [HZ.out]; exact World.ownsRow_nil _ _ _ _, Below.refl _ _⟩
  case round =>
    obtain ⟨k, hk, rfl, hO, hB⟩ := hrel
    have HO := Lib.hid hO
    have HB := Lib.hid hB
    clear hO hB
    by_cases hlt : k < ps.length
    · have hlt1 : decide ((k : Int) < (ps.length : Int)) = true := decide_eq_true (by omega)
      obtain ⟨b, off, l, rfl, hlb, hl, c0, c1, c2, c3⟩ := (HP.out.below HB.out (Nat.le_refl _)).at_ hlt
      have HC1 := Lib.hid (fun w => HC.out l w (HVL.out l (mem_of_get hl)))
      rw [← HCT.out k l hl] at HC1
      have HS1 := Lib.hid (HS.out k)
      have hl1 := HL.out k
      have hl2 := HCL.out k
      clear hl
      unfold lv at HC1
      generalize cndL ps k 0 = Z at *
      generalize ed k = LS at *
      obtain ⟨va, vc, rfl⟩ := own_slice HO.out
      go_wp2_with fail
      refine (HC1.out _).mono ?_
      rintro e w1 ⟨a1, k1, rfl, hq, hB⟩
      have HO := Lib.hid (own_below HO.out hB (Nat.le_refl _))
      have HB1 := Lib.hid (HB.out.trans (hB.mono HB.out.size))
      have HTO := Lib.hid hq
      clear hq hB c0 c1 c2 c3
      go_wp2_with fail
      go_loopw [3, 6] (fun s3 s6 wx => ∃ j : Nat, j ≤ Z.length ∧ s6 = .int .i64 (j : Int) ∧ wx.ownsRow w.heap.size 41 5 s3 (LS ++ (Z.take j).map fun m => (⟨(k : Int), m⟩ : E)).length (ec (LS ++ (Z.take j).map fun m => (⟨(k : Int), m⟩ : E))) ∧ wx.ownsRow w.heap.size 23 4 (.slice a1 Z.length k1) Z.length (lc Z) ∧ Below w.heap.size w wx) (fun _ s6 _ => Z.length - (intOf s6).toNat)
      case atStart => exact ⟨0, Nat.zero_le _, rfl, by rw [List.take_zero, List.map_nil, List.append_nil]; exact HO.out, own_mono HTO.out HB.out.size, HB1.out⟩
      case round =>
        clear HO HTO HB1
        obtain ⟨j, hj, rfl, hO, hT, hB⟩ := hrel
        have HO := Lib.hid hO
        have HT := Lib.hid hT
        have HB := Lib.hid hB
        clear hO hT hB
        by_cases hlj : j < Z.length
        · have hlj1 : decide ((j : Int) < (Z.length : Int)) = true := decide_eq_true (by omega)
          obtain ⟨tb, toff, x, rfl, htl, hx, d0, d1, d2, d3⟩ := (lines_of_own HT.out).1.at_ hlj
          have HN := Lib.hid (show LS ++ (Z.take (j + 1)).map (fun m => (⟨(k : Int), m⟩ : E)) = (LS ++ (Z.take j).map fun m => (⟨(k : Int), m⟩ : E)) ++ [⟨(k : Int), x⟩] by rw [map_take_E hx, List.append_assoc])
          have hll : (LS ++ (Z.take j).map fun m => (⟨(k : Int), m⟩ : E)).length ≤ 100000 := by rw [List.length_append, List.length_map, List.length_take]; omega
          generalize (LS ++ (Z.take j).map fun m => (⟨(k : Int), m⟩ : E)) = LS2 at *
          clear hx
          obtain ⟨va, vc, rfl⟩ := own_slice HO.out
          have hal : Below wr.heap.size wr (wr.alloc (.cells (eV ⟨(k : Int), x⟩) 41)) := (Below.refl _ _).alloc (Nat.le_refl _) _
          have HO2 := Lib.hid (own_below HO.out hal (Nat.le_refl _))
          have HT2 := Lib.hid (own_below HT.out hal (Nat.le_refl _))
          have HB2 := Lib.hid (HB.out.trans (hal.mono HB.out.size))
          have HCN := Lib.hid (cells_newE wr ⟨(k : Int), x⟩)
          unfold eV at HO2 HT2 HB2 HCN
          clear hal HO HT
          go_wp2_with (at_builtin; (refine wpList_append_own _ rfl (.tmp 24) (.tmp 31) 42 rfl w.heap.size 41 i0 (.agg #[.int .i64 0, .int .i64 0, .int .i64 0, .int .i64 0, .int .i64 0]) 5 40 Tryz.underlying42 hI hz0 hz1 hz2 rfl (by decide) (.slice va LS2.length vc) LS2.length (ec LS2) rfl HO2.out ⟨wr.heap.size, 0, none⟩ 1 1 (ec [⟨(k : Int), x⟩]) rfl ?c1 ?c2 ?c3 ?c4 ?c5 ?c6 ?_))
          case c1 => rfl
          case c2 => first | exact HCN.out | exact fun j u h => h
          case c3 => exact ec_one _
          case c4 => simp [maxLen]; omega
          case c5 => omega
          case c6 => first | exact HB2.out.size | (have h9 := HB2.out.size; simp at h9; omega)
          intro v' w5 hown hgrow _
          have HB5 := Lib.hid (HB2.out.grown hgrow HB2.out.size (by rintro k hk; exact (HO2.out.lt k hk).1))
          have HO5 := Lib.hid (edits_snoc hown)
          have HT5 := Lib.hid (HT2.out.kept hgrow (own_ne5 HO2.out HT2.out (by decide)))
          clear hown hgrow
          go_wp2_with fail
          go_roundw
          case rel => exact ⟨j + 1, by omega, by go_num, by rw [HN.out, List.length_append]; exact HO5.out, HT5.out, HB5.out⟩
          case measure => simp [intOf]; omega
        · obtain rfl : j = Z.length := by omega
          have hlj1 : decide ((Z.length : Int) < (Z.length : Int)) = false := decide_eq_false (by omega)
          have hO := HO.out
          rw [List.take_length, ← HS1.out] at hO
          have HO := Lib.hid hO
          clear hO
          go_wp2_with fail
          go_roundw
          case rel => exact ⟨k + 1, by omega, by go_num, HO.out, HB.out⟩
          case measure => simp [intOf]; omega
    · obtain rfl : k = ps.length := by omega
      have hlt1 : decide ((ps.length : Int) < (ps.length : Int)) = false := decide_eq_false (by omega)
      go_wp2_with fail
      go_ret
      exact givesEdits_of rfl HO.out HB.out

set_option maxRecDepth 100000 in
set_option maxHeartbeats 1000000 in
theorem rMutants_any (a : Option Addr) (ca : Nat) (ps : List L) (w : World) (hp : LinesAt w a ps) :
    Calls Tryz.prog 29 #[.slice a ps.length ca] w (GivesEditsE (muR ps) (vp ps) w) := by
  have HV := Lib.hid (fun w h => rValidate_any a ca ps w h)
  have HP := Lib.hid hp
  unfold muR
  by_cases hv : vp ps = 0
  · have H1 := Lib.hid (fun w h9 => rmutants_any a ca ps w h9 hv)
    rw [if_pos hv, hv]
    rw [hv] at HV
    generalize edL ps 0 = XS at *
    clear hp hv
    go_enter Tryz.func29, Tryz.ntmps29
    go_wp2_with fail
    refine (HV.out _ HP.out).mono ?_
    rintro e w0 ⟨rfl, hB⟩
    have HB0 := Lib.hid hB
    clear hB
    go_wp2_with fail
    refine (H1.out _ (HP.out.below HB0.out (Nat.le_refl _))).mono ?_
    rintro e w1 ⟨a1, k1, rfl, hq, hB⟩
    have HO := Lib.hid (own_mono hq HB0.out.size)
    have HB := Lib.hid (HB0.out.trans (hB.mono HB0.out.size))
    clear hq hB
    go_wp2_with fail
    go_ret2
    exact ⟨_, _, rfl, HO.out, HB.out⟩
  · rw [if_neg hv]
    generalize vp ps = q at *
    have hq1 : (q != 0) = true := by simpa using hv
    clear hp hv
    go_enter Tryz.func29, Tryz.ntmps29
    go_wp2_with fail
    refine (HV.out _ HP.out).mono ?_
    rintro e w0 ⟨rfl, hB⟩
    have HB0 := Lib.hid hB
    clear hB
    go_wp2_with fail
    go_ret2
    exact givesEditsE_nil HB0.out

set_option maxRecDepth 100000 in
set_option maxHeartbeats 4000000 in
theorem rkills_any (a h : Option Addr) (ca ch : Nat) (ps : List L) (ts : List T) (i : Nat) (x : L) (ww : World) (hp : LinesAt ww a ps) (hts : TestsAt ww h ts) (hv : vp ps = 0) (ht : vts ts = 0) (hi : i < ps.length) (hx : isLn x = true) :
    Calls Tryz.prog 62 #[.slice a ps.length ca, .slice h ts.length ch, .agg #[.int .i64 (i : Int), .int .i64 x.op, .int .i64 x.to, .int .i64 x.a, .int .i64 x.b]] ww (GivesInts (trL true ps (doL ps [⟨(i : Int), x⟩]) ts) ww) := by
  obtain ⟨i0, hI, hz0, hz1, hz2⟩ := info_parts info_line
  obtain ⟨j0, hJ, hy0, hy1, hy2⟩ := info_parts info_intP
  obtain ⟨t8, hT⟩ := vts_ok ht
  obtain ⟨h8, _⟩ := vp_ok hv
  have HTT := Lib.hid hT
  have hvq : vp (doL ps [⟨(i : Int), x⟩]) = 0 := doL_vp hv (by
    intro e he
    rw [List.mem_singleton] at he
    subst he
    exact hx)
  have HD := Lib.hid (show doL ps [⟨(i : Int), x⟩] = ps.set i x from rfl)
  rw [HD.out] at hvq ⊢
  have hql : (ps.set i x).length = ps.length := List.length_set
  have HPC := Lib.hid (fun b cb t w h1 h2 h3 => rPasses4_any a b ca cb ps t w h1 h2 hv h3)
  have HQC := Lib.hid (fun a' ca' b cb t w h1 h2 h3 => rPasses4_any a' b ca' cb (ps.set i x) t w h1 h2 hvq h3)
  rw [hql] at HQC
  have HE := Lib.hid (show trL true ps (ps.set i x) ts = plcTo (ts.map (trF true ps (ps.set i x))) ts.length by unfold trL plc; rw [List.length_map]; rfl)
  have HY := Lib.hid (fun k t (h : ts[k]? = some t) (h2 : trF true ps (ps.set i x) t = true) => plcTo_yes (l := ts.map (trF true ps (ps.set i x))) (k := k) (by rw [List.getElem?_map, h]; show some (trF true ps (ps.set i x) t) = some true; rw [h2]))
  have HN := Lib.hid (fun k t (h : ts[k]? = some t) (h2 : trF true ps (ps.set i x) t = false) => plcTo_no (l := ts.map (trF true ps (ps.set i x))) (k := k) (by rw [List.getElem?_map, h]; show some (trF true ps (ps.set i x) t) = some false; rw [h2]))
  have HFT := Lib.hid (show ∀ t, trF true ps (ps.set i x) t = (pas ps t && !pas (ps.set i x) t) from fun t => by unfold trF; cases pas ps t <;> cases pas (ps.set i x) t <;> rfl)
  have HZ := Lib.hid (show plcTo (ts.map (trF true ps (ps.set i x))) 0 = [] from rfl)
  have HLN := Lib.hid (fun k => plcTo_length (ts.map (trF true ps (ps.set i x))) k)
  rw [HE.out]
  obtain ⟨qs, hqs⟩ : ∃ qs, qs = ps.set i x := ⟨_, rfl⟩
  rw [← hqs] at HQC HY HN HFT HZ HLN hql ⊢
  have HQS := Lib.hid hqs
  clear HD hvq hqs
  generalize (ts.map (trF true ps qs)) = bs at *
  generalize trF true ps qs = fF at *
  obtain ⟨W0, hW0⟩ : ∃ W, W = ww.alloc (.cells #[.int .i64 (i : Int), .int .i64 x.op, .int .i64 x.to, .int .i64 x.a, .int .i64 x.b] 41) := ⟨_, rfl⟩
  have hb : Below ww.heap.size ww W0 := by rw [hW0]; exact (Below.refl _ _).alloc (Nat.le_refl _) _
  have HX0 := Lib.hid (show W0.heap[ww.heap.size]? = some (.cells #[.int .i64 (i : Int), .int .i64 x.op, .int .i64 x.to, .int .i64 x.a, .int .i64 x.b] 41 (0, 0)) by rw [hW0]; exact hp_new rfl)
  have HP := Lib.hid (hp.below hb (Nat.le_refl _))
  have HTS := Lib.hid (hts.below hb (Nat.le_refl _))
  have HB0 := Lib.hid hb
  obtain ⟨ad, had⟩ : ∃ ad, a = some ad := by
    obtain ⟨b, off, l, e, _⟩ := hp.at_ hi
    exact ⟨_, e⟩
  subst had
  have HC := Lib.hid (HP.out.cells)
  have hown := World.ownsRow_lit (base := W0.heap.size) (e := 23) (size := 4) W0 #[] 0 (Nat.le_refl _) (by simp [maxLen]) (by simp)
  have HOne := Lib.hid (one_line x)
  clear hT hv ht hx hb hp hts HE
  go_enter Tryz.func62, Tryz.ntmps62
  go_upto_region 1 with fail
  rw [← hW0]
  clear hW0
  go_wp2_with (at_builtin; (refine wpList_append_own _ rfl (.tmp 10) (.tmp 11) 24 rfl W0.heap.size 23 i0 (.agg #[.int .i64 0, .int .i64 0, .int .i64 0, .int .i64 0]) 4 32 Tryz.underlying24 hI hz0 hz1 hz2 rfl (by decide) _ 0 [] rfl hown ad ps.length ca (lc ps) rfl ?c1 ?c2 ?c3 ?c4 ?c5 ?c6 ?_))
  case c1 => exact lc_length ps
  case c2 => intro j u hu; exact cell_alloc_keep (HC.out j u hu)
  case c3 => exact lc_one ps
  case c4 => simp [maxLen]; omega
  case c5 => omega
  intro v' w1 hown1 hgrow _
  have hB1 : Below W0.heap.size W0 w1 := ((Below.refl _ _).alloc (Nat.le_refl _) _).grown hgrow (by simp) (by rintro k hk; simp [Value.ownBlock] at hk; omega)
  have hO1 : w1.ownsRow W0.heap.size 23 4 v' ps.length (lc ps) := by simpa using hown1
  obtain ⟨va, vc, rfl⟩ := own_slice hO1
  obtain ⟨g, rfl⟩ := own_form hO1 (by omega)
  have HX1 := Lib.hid (hp_below HX0.out hB1 (hp_lt HX0.out))
  have HTh := Lib.hid (own_there hO1 hi)
  have hPL := own_setLine hO1 hi x
  rw [← HQS.out] at hPL
  have HPL := Lib.hid hPL
  clear hPL
  have hgb := own_base' hO1
  have HB1 := Lib.hid (hB1.trans ((Off.setCells g w1 (i * 4) [.int .i64 x.op, .int .i64 x.to, .int .i64 x.a, .int .i64 x.b]).below hgb hB1.size))
  have x0 := hp_cell HX1.out (j := 0) (by rfl)
  have x1 := hp_cell HX1.out (j := 1) (by rfl)
  have x2 := hp_cell HX1.out (j := 2) (by rfl)
  have x3 := hp_cell HX1.out (j := 3) (by rfl)
  have x4 := hp_cell HX1.out (j := 4) (by rfl)
  have i1 : (0 : Int) ≤ (i : Int) := by omega
  have i2 : (i : Int) < (ps.length : Int) := by omega
  clear hown hown1 hgrow hB1 hO1
  go_wp2_with (refine wpList_store_mid rfl 23 (.tmp 18) (.tmp 17) rfl g (i * 4) #[.int .i64 x.op, .int .i64 x.to, .int .i64 x.a, .int .i64 x.b] rfl rfl HTh.out info_ln HOne.out ?_)
  have HQ := Lib.hid (lines_of_own HPL.out).1
  have HB := Lib.hid (HB0.out.trans (HB1.out.mono HB0.out.size))
  have HP := Lib.hid (HP.out.below HB1.out (Nat.le_refl _))
  have HTS := Lib.hid (HTS.out.below HB1.out (Nat.le_refl _))
  rw [← setCells4] at HQ
  clear HPL HX1 HTh x0 x1 x2 x3 x4 HC
  go_wp2_with fail
  generalize w1.setCells g (i * 4) [.int .i64 x.op, .int .i64 x.to, .int .i64 x.a, .int .i64 x.b] = W1 at *
  go_loopw [8, 9] (fun s8 s9 wr => ∃ k : Nat, k ≤ ts.length ∧ s9 = .int .i64 k ∧ wr.ownsRow W1.heap.size 3 1 s8 (plcTo bs k).length ((plcTo bs k).map (Value.int .i64)) ∧ Below W1.heap.size W1 wr) (fun _ s9 _ => ts.length - (intOf s9).toNat)
  case atStart => exact ⟨0, Nat.zero_le _, rfl, by rw [HZ.out]; exact World.ownsRow_nil _ _ _ _, Below.refl _ _⟩
  case round =>
    obtain ⟨k, hk, rfl, hO, hBr⟩ := hrel
    have HO := Lib.hid hO
    have HBR := Lib.hid hBr
    clear hO hBr
    by_cases hlt : k < ts.length
    · have hlt1 : decide ((k : Int) < (ts.length : Int)) = true := decide_eq_true (by omega)
      obtain ⟨b', off, t, a', c', rfl, hlb2, hz, x0, x1, x2, hi2⟩ := (HTS.out.below HBR.out (Nat.le_refl _)).at_ hlt
      have HI := Lib.hid hi2
      have HTQ := Lib.hid (HTT.out t (mem_of_get hz))
      have HY2 := Lib.hid (HY.out k t hz)
      have HN2 := Lib.hid (HN.out k t hz)
      have hln := HLN.out k
      have HF := Lib.hid (HFT.out t)
      clear hz hi2 HY HN HFT HLN HZ HTT
      generalize plcTo bs k = LS at HY2 HN2 hln HO
      have HC1 := Lib.hid (fun w h1 h2 => HPC.out a' c' t w h1 h2 HTQ.out)
      have HC2 := Lib.hid (fun w h1 h2 => HQC.out (some ⟨g, 0, none⟩) vc a' c' t w h1 h2 HTQ.out)
      generalize pas ps t = r1 at HC1 HF
      generalize pas qs t = r2 at HC2 HF
      have HPr := Lib.hid (HP.out.below HBR.out (Nat.le_refl _))
      have HQr := Lib.hid (HQ.out.below HBR.out (Nat.le_refl _))
      clear HPC HQC
      cases r1
      · have HS := Lib.hid (HN2.out HF.out)
        go_wp2_with fail
        refine (HC1.out _ HPr.out HI.out).mono ?_
        rintro e w2 ⟨rfl, hB2⟩
        have HO := Lib.hid (own_below HO.out hB2 (Nat.le_refl _))
        have HI := Lib.hid (HI.out.below hB2 (Nat.le_refl _))
        have HQr := Lib.hid (HQr.out.below hB2 (Nat.le_refl _))
        have HB2 := Lib.hid (HBR.out.trans (hB2.mono HBR.out.size))
        replace x0 := (hB2.cell (p := ⟨b', _, none⟩) hlb2).trans x0
        replace x1 := (hB2.cell (p := ⟨b', _, none⟩) hlb2).trans x1
        replace x2 := (hB2.cell (p := ⟨b', _, none⟩) hlb2).trans x2
        clear hB2
        clear x0 x1 x2
        go_wp2_with fail
        go_roundw
        case rel => exact ⟨k + 1, by omega, by go_num, by rw [HS.out]; exact HO.out, HB2.out⟩
        case measure => simp [intOf]; omega
      · cases r2
        · have HS := Lib.hid (HY2.out HF.out)
          go_wp2_with fail
          refine (HC1.out _ HPr.out HI.out).mono ?_
          rintro e w2 ⟨rfl, hB2⟩
          have HO := Lib.hid (own_below HO.out hB2 (Nat.le_refl _))
          have HI := Lib.hid (HI.out.below hB2 (Nat.le_refl _))
          have HQr := Lib.hid (HQr.out.below hB2 (Nat.le_refl _))
          have HB2 := Lib.hid (HBR.out.trans (hB2.mono HBR.out.size))
          replace x0 := (hB2.cell (p := ⟨b', _, none⟩) hlb2).trans x0
          replace x1 := (hB2.cell (p := ⟨b', _, none⟩) hlb2).trans x1
          replace x2 := (hB2.cell (p := ⟨b', _, none⟩) hlb2).trans x2
          clear hB2
          go_wp2_with fail
          refine (HC2.out _ HQr.out HI.out).mono ?_
          rintro e w3 ⟨rfl, hB3⟩
          have HO := Lib.hid (own_below HO.out hB3 (Nat.le_refl _))
          have HB3 := Lib.hid (HB2.out.trans (hB3.mono HB2.out.size))
          clear hB3 x0 x1 x2
          obtain ⟨va, vc2, rfl⟩ := own_slice HO.out
          have hal2 : Below w3.heap.size w3 (w3.alloc (.cells #[.int .i64 (k : Int)] 3)) := (Below.refl _ _).alloc (Nat.le_refl _) _
          have HO2 := Lib.hid (own_below HO.out hal2 (Nat.le_refl _))
          have HB4 := Lib.hid (HB3.out.trans (hal2.mono HB3.out.size))
          have HC3 := Lib.hid (cells_newI w3 (k : Int))
          clear hal2
          go_wp2_with (at_builtin; (refine wpList_append_own _ rfl (.tmp 40) (.tmp 42) 46 rfl W1.heap.size 3 j0 (.int .i64 0) 1 8 Tryz.underlying46 hJ hy0 hy1 hy2 rfl (by decide) _ _ _ rfl HO2.out ⟨w3.heap.size, 0, none⟩ 1 1 [.int .i64 (k : Int)] rfl rfl ?c1 ?c2 ?c3 ?c4 ?c5 ?_))
          case c1 => first | exact HC3.out | (intro j u hu; simpa using hu)
          case c2 => simp [Value.oneCell']
          case c3 => simp [maxLen]; omega
          case c4 => omega
          case c5 => first | exact HB4.out.size | (have h9 := HB4.out.size; simp at h9; omega)
          intro v' w5 hown hgrow _
          have HB5 := Lib.hid (HB4.out.grown hgrow HB4.out.size (by rintro k hk; exact (HO2.out.lt k hk).1))
          have HO5 := Lib.hid (ints_snoc hown)
          clear hown hgrow
          go_wp2_with fail
          go_roundw
          case rel => exact ⟨k + 1, by omega, by go_num, by rw [HS.out, List.length_append]; exact HO5.out, HB5.out⟩
          case measure => simp [intOf]; omega
        · have HS := Lib.hid (HN2.out HF.out)
          go_wp2_with fail
          refine (HC1.out _ HPr.out HI.out).mono ?_
          rintro e w2 ⟨rfl, hB2⟩
          have HO := Lib.hid (own_below HO.out hB2 (Nat.le_refl _))
          have HI := Lib.hid (HI.out.below hB2 (Nat.le_refl _))
          have HQr := Lib.hid (HQr.out.below hB2 (Nat.le_refl _))
          have HB2 := Lib.hid (HBR.out.trans (hB2.mono HBR.out.size))
          replace x0 := (hB2.cell (p := ⟨b', _, none⟩) hlb2).trans x0
          replace x1 := (hB2.cell (p := ⟨b', _, none⟩) hlb2).trans x1
          replace x2 := (hB2.cell (p := ⟨b', _, none⟩) hlb2).trans x2
          clear hB2
          go_wp2_with fail
          refine (HC2.out _ HQr.out HI.out).mono ?_
          rintro e w3 ⟨rfl, hB3⟩
          have HO := Lib.hid (own_below HO.out hB3 (Nat.le_refl _))
          have HB3 := Lib.hid (HB2.out.trans (hB3.mono HB2.out.size))
          clear hB3 x0 x1 x2
          go_wp2_with fail
          go_roundw
          case rel => exact ⟨k + 1, by omega, by go_num, by rw [HS.out]; exact HO.out, HB3.out⟩
          case measure => simp [intOf]; omega
    · obtain rfl : k = ts.length := by omega
      have hlt1 : decide ((ts.length : Int) < (ts.length : Int)) = false := decide_eq_false (by omega)
      obtain ⟨va, vc2, rfl⟩ := own_slice HO.out
      have HO := Lib.hid (own_mono HO.out HB.out.size)
      have HBE := Lib.hid (HB.out.trans (HBR.out.mono HB.out.size))
      go_wp2_with fail
      go_ret
      exact ⟨_, _, rfl, HO.out, HBE.out⟩

end Go.Proofs.YtjciojoeifekeaaGreat

/- Kills of the document (package tinkerref05): contract. -/
set_option linter.unusedVariables false
set_option linter.unusedSimpArgs false
namespace Go.Proofs.YtjciojoeifekeaaGreat
open Go.RowKit Go.Shelf Tinker
attribute [local go_sem] Oper.semAt_some

set_option maxRecDepth 100000 in
set_option maxHeartbeats 8000000 in
theorem rKills_any (a h : Option Addr) (ca ch : Nat) (ps : List L) (ts : List T) (m : E) (ww : World) (hp : LinesAt ww a ps) (hts : TestsAt ww h ts) :
    Calls Tryz.prog 31 #[.slice a ps.length ca, .slice h ts.length ch, .agg (eV m)] ww (GivesIntsE (klR ps ts m) (klC ps ts m) ww) := by
  have H1 := Lib.hid (fun w h1 h2 => rtested5_any a h ca ch ps ts w h1 h2)
  by_cases hd : feL [vp ps, vts ts] = 0
  · by_cases hpl : plC ps m.at_ = 0
    · have hz : feL [feL [vp ps, vts ts], plC ps m.at_] = 0 := by rw [hd, hpl]; rfl
      obtain ⟨v1, v2, i, x, rfl, hi⟩ := klC_at hz
      have hvl := (vp_ok v1).2
      have HLL := Lib.hid (fun (l : L) (hl : ps[i]? = some l) => (lnD_at hl).symm)
      have hln : isLn (lnD ps i) = true := by
        obtain ⟨l, hl⟩ := get_of_lt hi
        rw [lnD_at hl]
        exact hvl l (mem_of_get hl)
      have HC := Lib.hid (show klC ps ts ⟨(i : Int), x⟩ = if (isLn x && nearB (lnD ps i) x) = true then 0 else 1 by
        unfold klC
        rw [if_pos hz]
        rfl)
      have HR := Lib.hid (show klR ps ts ⟨(i : Int), x⟩ = if klC ps ts ⟨(i : Int), x⟩ = 0 then trL true ps (doL ps [⟨(i : Int), x⟩]) ts else [] from rfl)
      have HV := Lib.hid (fun w => rValidateLine_any x w)
      rw [hd] at H1
      rw [HR.out, HC.out]
      cases hx : isLn x
      · show Calls _ _ _ _ (GivesIntsE [] 1 ww)
        rw [show vl x = 1 by unfold vl; rw [hx]; rfl] at HV
        clear hz hd hpl hvl v1 v2 hln HC HR hx
        obtain ⟨W0, hW0⟩ : ∃ W, W = ww.alloc (.cells (eV ⟨(i : Int), x⟩) 41) := ⟨_, rfl⟩
        have hb : Below ww.heap.size ww W0 := by rw [hW0]; exact (Below.refl _ _).alloc (Nat.le_refl _) _
        have HX0 := Lib.hid (show W0.heap[ww.heap.size]? = some (.cells #[.int .i64 (i : Int), .int .i64 x.op, .int .i64 x.to, .int .i64 x.a, .int .i64 x.b] 41 (0, 0)) by rw [hW0]; exact hp_new rfl)
        have HP := Lib.hid (hp.below hb (Nat.le_refl _))
        have HT := Lib.hid (hts.below hb (Nat.le_refl _))
        have HB0 := Lib.hid hb
        clear hb hp hts
        unfold eV at hW0 ⊢
        unfold lv at HV
        dsimp only at hW0 ⊢
        go_enter Tryz.func31, Tryz.ntmps31
        go_wp2_with fail
        rw [← hW0]
        clear hW0
        refine (H1.out _ HP.out HT.out).mono ?_
        rintro e w1 ⟨rfl, hB⟩
        have HX1 := Lib.hid (hp_below HX0.out hB (hp_lt HX0.out))
        have HP1 := Lib.hid (HP.out.below hB (Nat.le_refl _))
        have HT1 := Lib.hid (HT.out.below hB (Nat.le_refl _))
        have HB1 := Lib.hid (HB0.out.trans (hB.mono HB0.out.size))
        clear hB
        obtain ⟨b, off, l, rfl, hlb, hl, c0, c1, c2, c3⟩ := HP1.out.at_ hi
        have HL2 := Lib.hid (HLL.out l hl)
        have i1 : (0 : Int) ≤ (i : Int) := by omega
        have i2 : (i : Int) < (ps.length : Int) := by omega
        have i3 : decide ((i : Int) < 0) = false := decide_eq_false (by omega)
        have i4 : decide ((ps.length : Int) ≤ (i : Int)) = false := decide_eq_false (by omega)
        have hlx := hp_lt HX1.out
        have x0 := hp_cell HX1.out (j := 0) (by rfl)
        have x1 := hp_cell HX1.out (j := 1) (by rfl)
        have x2 := hp_cell HX1.out (j := 2) (by rfl)
        have x3 := hp_cell HX1.out (j := 3) (by rfl)
        have x4 := hp_cell HX1.out (j := 4) (by rfl)
        clear hl
        go_wp2_with fail
        rename_i Qb Kb hKb
        refine wp_region_held_drew (S := (fun W2 => Below w1.heap.size w1 W2)) (by kernel_rfl) ?_ (fun hHeld => ?_)
        · exact (Below.refl _ _).drew
        generalize w1.drew = Wd at *
        refine wpAnyH_take (i := 0) (oi := ?oiq34) (v := (.pointer (some ⟨ww.heap.size, 1, none⟩))) ?hiq34 (by kernel_rfl) (by kernel_rfl) (by kernel_rfl) ?hqq34 ?hyq34 hHeld ?restq34
        case hiq34 => exact rfl
        case hqq34 => exact fun _ _ _ h => h
        case hyq34 =>
          refine Or.inl ⟨by rfl, ?_⟩
          intro w hSw
          go_simp
          (try with_reducible rfl)
        try simp only [Act.put, List.getElem_toArray, List.getElem_cons_succ, List.getElem_cons_zero, List.setIfInBounds_toArray, List.set_cons_zero, List.set_cons_succ]
        refine wpAnyH_take (i := 1) (oi := ?oiq35) (v := (.agg #[.int .i64 x.op, .int .i64 x.to, .int .i64 x.a, .int .i64 x.b])) ?hiq35 (by kernel_rfl) (by kernel_rfl) (by kernel_rfl) ?hqq35 ?hyq35 hHeld ?restq35
        case hiq35 => exact rfl
        case hqq35 => exact fun _ _ _ h => h
        case hyq35 =>
          refine Or.inl ⟨by rfl, ?_⟩
          intro w hSw
          have m1 := (hSw.cell (p := ⟨ww.heap.size, 1, none⟩) hlx).trans x1
          have m2 := (hSw.cell (p := ⟨ww.heap.size, 2, none⟩) hlx).trans x2
          have m3 := (hSw.cell (p := ⟨ww.heap.size, 3, none⟩) hlx).trans x3
          have m4 := (hSw.cell (p := ⟨ww.heap.size, 4, none⟩) hlx).trans x4
          go_simp
          (try with_reducible rfl)
        try simp only [Act.put, List.getElem_toArray, List.getElem_cons_succ, List.getElem_cons_zero, List.setIfInBounds_toArray, List.set_cons_zero, List.set_cons_succ]
        refine wpAnyH_ready (rs := [2]) (by kernel_rfl) (by simp) ?_
        refine AllReadyH.cons (o := ?or48_2) ?hr48_2 ?kr48_2 AllReadyH.nil
        case hr48_2 => exact rfl
        case kr48_2 =>
          intro K hK
          go_simp
          refine (HV.out _).mono ?_
          rintro e w3 ⟨rfl, hB⟩
          have HH3 := Lib.hid (hHeld.trans (hB.mono hHeld.size))
          clear hB
          refine hK.out _ _ HH3.out (fun hHeld => ?_)
          clear hK K
          try simp only [Act.put, List.getElem_toArray, List.getElem_cons_succ, List.getElem_cons_zero, List.setIfInBounds_toArray, List.set_cons_zero, List.set_cons_succ]
          have hHeld := HH3.out
          refine wpAnyH_take (i := 3) (oi := ?oiq36) (v := (.bool true)) ?hiq36 (by kernel_rfl) (by kernel_rfl) (by kernel_rfl) ?hqq36 ?hyq36 hHeld ?restq36
          case hiq36 => exact rfl
          case hqq36 => exact fun _ _ _ h => h
          case hyq36 =>
            refine Or.inl ⟨by rfl, ?_⟩
            intro w hSw
            go_simp
            (try with_reducible rfl)
          try simp only [Act.put, List.getElem_toArray, List.getElem_cons_succ, List.getElem_cons_zero, List.setIfInBounds_toArray, List.set_cons_zero, List.set_cons_succ]
          refine wpAnyH_take (i := 4) (oi := ?oiq37) (v := (.bool true)) ?hiq37 (by kernel_rfl) (by kernel_rfl) (by kernel_rfl) ?hqq37 ?hyq37 hHeld ?restq37
          case hiq37 => exact rfl
          case hqq37 => exact fun _ _ _ h => h
          case hyq37 =>
            refine Or.inl ⟨by rfl, ?_⟩
            intro w hSw
            go_simp
            (try with_reducible rfl)
          try simp only [Act.put, List.getElem_toArray, List.getElem_cons_succ, List.getElem_cons_zero, List.setIfInBounds_toArray, List.set_cons_zero, List.set_cons_succ]
          refine wpAnyH_take (i := 5) (oi := ?oiq38) (v := undef) ?hiq38 (by kernel_rfl) (by kernel_rfl) (by kernel_rfl) ?hqq38 ?hyq38 hHeld ?restq38
          case hiq38 => exact rfl
          case hqq38 => exact fun _ _ _ h => h
          case hyq38 => exact Or.inr ⟨by kernel_rfl, rfl⟩
          try simp only [Act.put, List.getElem_toArray, List.getElem_cons_succ, List.getElem_cons_zero, List.setIfInBounds_toArray, List.set_cons_zero, List.set_cons_succ]
          refine wpAnyH_take (i := 6) (oi := ?oiq39) (v := undef) ?hiq39 (by kernel_rfl) (by kernel_rfl) (by kernel_rfl) ?hqq39 ?hyq39 hHeld ?restq39
          case hiq39 => exact rfl
          case hqq39 => exact fun _ _ _ h => h
          case hyq39 => exact Or.inr ⟨by kernel_rfl, rfl⟩
          try simp only [Act.put, List.getElem_toArray, List.getElem_cons_succ, List.getElem_cons_zero, List.setIfInBounds_toArray, List.set_cons_zero, List.set_cons_succ]
          refine wpAnyH_take (i := 7) (oi := ?oiq40) (v := undef) ?hiq40 (by kernel_rfl) (by kernel_rfl) (by kernel_rfl) ?hqq40 ?hyq40 hHeld ?restq40
          case hiq40 => exact rfl
          case hqq40 => exact fun _ _ _ h => h
          case hyq40 => exact Or.inr ⟨by kernel_rfl, rfl⟩
          try simp only [Act.put, List.getElem_toArray, List.getElem_cons_succ, List.getElem_cons_zero, List.setIfInBounds_toArray, List.set_cons_zero, List.set_cons_succ]
          refine wpAnyH_take (i := 8) (oi := ?oiq41) (v := undef) ?hiq41 (by kernel_rfl) (by kernel_rfl) (by kernel_rfl) ?hqq41 ?hyq41 hHeld ?restq41
          case hiq41 => exact rfl
          case hqq41 => exact fun _ _ _ h => h
          case hyq41 => exact Or.inr ⟨by kernel_rfl, rfl⟩
          try simp only [Act.put, List.getElem_toArray, List.getElem_cons_succ, List.getElem_cons_zero, List.setIfInBounds_toArray, List.set_cons_zero, List.set_cons_succ]
          refine wpAnyH_take (i := 9) (oi := ?oiq42) (v := undef) ?hiq42 (by kernel_rfl) (by kernel_rfl) (by kernel_rfl) ?hqq42 ?hyq42 hHeld ?restq42
          case hiq42 => exact rfl
          case hqq42 => exact fun _ _ _ h => h
          case hyq42 => exact Or.inr ⟨by kernel_rfl, rfl⟩
          try simp only [Act.put, List.getElem_toArray, List.getElem_cons_succ, List.getElem_cons_zero, List.setIfInBounds_toArray, List.set_cons_zero, List.set_cons_succ]
          refine wpAnyH_take (i := 10) (oi := ?oiq43) (v := undef) ?hiq43 (by kernel_rfl) (by kernel_rfl) (by kernel_rfl) ?hqq43 ?hyq43 hHeld ?restq43
          case hiq43 => exact rfl
          case hqq43 => exact fun _ _ _ h => h
          case hyq43 => exact Or.inr ⟨by kernel_rfl, rfl⟩
          try simp only [Act.put, List.getElem_toArray, List.getElem_cons_succ, List.getElem_cons_zero, List.setIfInBounds_toArray, List.set_cons_zero, List.set_cons_succ]
          refine wpAnyH_take (i := 11) (oi := ?oiq44) (v := undef) ?hiq44 (by kernel_rfl) (by kernel_rfl) (by kernel_rfl) ?hqq44 ?hyq44 hHeld ?restq44
          case hiq44 => exact rfl
          case hqq44 => exact fun _ _ _ h => h
          case hyq44 => exact Or.inr ⟨by kernel_rfl, rfl⟩
          try simp only [Act.put, List.getElem_toArray, List.getElem_cons_succ, List.getElem_cons_zero, List.setIfInBounds_toArray, List.set_cons_zero, List.set_cons_succ]
          refine wpAnyH_take (i := 12) (oi := ?oiq45) (v := undef) ?hiq45 (by kernel_rfl) (by kernel_rfl) (by kernel_rfl) ?hqq45 ?hyq45 hHeld ?restq45
          case hiq45 => exact rfl
          case hqq45 => exact fun _ _ _ h => h
          case hyq45 => exact Or.inr ⟨by kernel_rfl, rfl⟩
          try simp only [Act.put, List.getElem_toArray, List.getElem_cons_succ, List.getElem_cons_zero, List.setIfInBounds_toArray, List.set_cons_zero, List.set_cons_succ]
          refine wpAnyH_take (i := 13) (oi := ?oiq46) (v := undef) ?hiq46 (by kernel_rfl) (by kernel_rfl) (by kernel_rfl) ?hqq46 ?hyq46 hHeld ?restq46
          case hiq46 => exact rfl
          case hqq46 => exact fun _ _ _ h => h
          case hyq46 => exact Or.inr ⟨by kernel_rfl, rfl⟩
          try simp only [Act.put, List.getElem_toArray, List.getElem_cons_succ, List.getElem_cons_zero, List.setIfInBounds_toArray, List.set_cons_zero, List.set_cons_succ]
          refine wpAnyH_take (i := 14) (oi := ?oiq47) (v := ?vq47) ?hiq47 (by kernel_rfl) (by kernel_rfl) (by kernel_rfl) ?hqq47 ?hyq47 hHeld ?restq47
          case hiq47 => exact rfl
          case hqq47 => exact fun _ _ _ h => h
          case hyq47 =>
            refine Or.inl ⟨by rfl, ?_⟩
            intro w hSw
            go_simp
            (try with_reducible rfl)
          try simp only [Act.put, List.getElem_toArray, List.getElem_cons_succ, List.getElem_cons_zero, List.setIfInBounds_toArray, List.set_cons_zero, List.set_cons_succ]
          have hHeldE := hHeld
          refine wpAnyH_done (by kernel_rfl) ?_ _
          clear hHeld
          refine hKb _ _ ?_
          have HBR := Lib.hid (HB1.out.trans (hHeldE.mono HB1.out.size))
          have HEE := Lib.hid hHeldE
          go_wp2_with fail
          go_ret2
          exact givesIntsE_nil HBR.out
      · rw [show vl x = 0 by unfold vl; rw [hx]; rfl] at HV
        have HN := Lib.hid (fun w => rnear_any (lnD ps i) x w hln hx)
        have HK := Lib.hid (fun w h1 h2 => rkills_any a h ca ch ps ts i x w h1 h2 v1 v2 hi hx)
        generalize trL true ps (doL ps [⟨(i : Int), x⟩]) ts = KL at *
        cases hr : nearB (lnD ps i) x
        · show Calls _ _ _ _ (GivesIntsE [] 1 ww)
          rw [hr] at HN
          clear hz hd hpl hvl v1 v2 hln HC HR hx hr HK
          obtain ⟨W0, hW0⟩ : ∃ W, W = ww.alloc (.cells (eV ⟨(i : Int), x⟩) 41) := ⟨_, rfl⟩
          have hb : Below ww.heap.size ww W0 := by rw [hW0]; exact (Below.refl _ _).alloc (Nat.le_refl _) _
          have HX0 := Lib.hid (show W0.heap[ww.heap.size]? = some (.cells #[.int .i64 (i : Int), .int .i64 x.op, .int .i64 x.to, .int .i64 x.a, .int .i64 x.b] 41 (0, 0)) by rw [hW0]; exact hp_new rfl)
          have HP := Lib.hid (hp.below hb (Nat.le_refl _))
          have HT := Lib.hid (hts.below hb (Nat.le_refl _))
          have HB0 := Lib.hid hb
          clear hb hp hts
          unfold eV at hW0 ⊢
          unfold lv at HV HN
          dsimp only at hW0 ⊢
          go_enter Tryz.func31, Tryz.ntmps31
          go_wp2_with fail
          rw [← hW0]
          clear hW0
          refine (H1.out _ HP.out HT.out).mono ?_
          rintro e w1 ⟨rfl, hB⟩
          have HX1 := Lib.hid (hp_below HX0.out hB (hp_lt HX0.out))
          have HP1 := Lib.hid (HP.out.below hB (Nat.le_refl _))
          have HT1 := Lib.hid (HT.out.below hB (Nat.le_refl _))
          have HB1 := Lib.hid (HB0.out.trans (hB.mono HB0.out.size))
          clear hB
          obtain ⟨b, off, l, rfl, hlb, hl, c0, c1, c2, c3⟩ := HP1.out.at_ hi
          have HL2 := Lib.hid (HLL.out l hl)
          have i1 : (0 : Int) ≤ (i : Int) := by omega
          have i2 : (i : Int) < (ps.length : Int) := by omega
          have i3 : decide ((i : Int) < 0) = false := decide_eq_false (by omega)
          have i4 : decide ((ps.length : Int) ≤ (i : Int)) = false := decide_eq_false (by omega)
          have hlx := hp_lt HX1.out
          have x0 := hp_cell HX1.out (j := 0) (by rfl)
          have x1 := hp_cell HX1.out (j := 1) (by rfl)
          have x2 := hp_cell HX1.out (j := 2) (by rfl)
          have x3 := hp_cell HX1.out (j := 3) (by rfl)
          have x4 := hp_cell HX1.out (j := 4) (by rfl)
          clear hl
          go_wp2_with fail
          rw [← HL2.out] at HN
          clear HL2
          rename_i Qb Kb hKb
          refine wp_region_held_drew (S := (fun W2 => Below w1.heap.size w1 W2)) (by kernel_rfl) ?_ (fun hHeld => ?_)
          · exact (Below.refl _ _).drew
          generalize w1.drew = Wd at *
          refine wpAnyH_take (i := 0) (oi := ?oiq49) (v := (.pointer (some ⟨ww.heap.size, 1, none⟩))) ?hiq49 (by kernel_rfl) (by kernel_rfl) (by kernel_rfl) ?hqq49 ?hyq49 hHeld ?restq49
          case hiq49 => exact rfl
          case hqq49 => exact fun _ _ _ h => h
          case hyq49 =>
            refine Or.inl ⟨by rfl, ?_⟩
            intro w hSw
            go_simp
            (try with_reducible rfl)
          try simp only [Act.put, List.getElem_toArray, List.getElem_cons_succ, List.getElem_cons_zero, List.setIfInBounds_toArray, List.set_cons_zero, List.set_cons_succ]
          refine wpAnyH_take (i := 1) (oi := ?oiq50) (v := (.agg #[.int .i64 x.op, .int .i64 x.to, .int .i64 x.a, .int .i64 x.b])) ?hiq50 (by kernel_rfl) (by kernel_rfl) (by kernel_rfl) ?hqq50 ?hyq50 hHeld ?restq50
          case hiq50 => exact rfl
          case hqq50 => exact fun _ _ _ h => h
          case hyq50 =>
            refine Or.inl ⟨by rfl, ?_⟩
            intro w hSw
            have m1 := (hSw.cell (p := ⟨ww.heap.size, 1, none⟩) hlx).trans x1
            have m2 := (hSw.cell (p := ⟨ww.heap.size, 2, none⟩) hlx).trans x2
            have m3 := (hSw.cell (p := ⟨ww.heap.size, 3, none⟩) hlx).trans x3
            have m4 := (hSw.cell (p := ⟨ww.heap.size, 4, none⟩) hlx).trans x4
            go_simp
            (try with_reducible rfl)
          try simp only [Act.put, List.getElem_toArray, List.getElem_cons_succ, List.getElem_cons_zero, List.setIfInBounds_toArray, List.set_cons_zero, List.set_cons_succ]
          refine wpAnyH_ready (rs := [2]) (by kernel_rfl) (by simp) ?_
          refine AllReadyH.cons (o := ?or63_2) ?hr63_2 ?kr63_2 AllReadyH.nil
          case hr63_2 => exact rfl
          case kr63_2 =>
            intro K hK
            go_simp
            refine (HV.out _).mono ?_
            rintro e w3 ⟨rfl, hB⟩
            have HH3 := Lib.hid (hHeld.trans (hB.mono hHeld.size))
            clear hB
            refine hK.out _ _ HH3.out (fun hHeld => ?_)
            clear hK K
            try simp only [Act.put, List.getElem_toArray, List.getElem_cons_succ, List.getElem_cons_zero, List.setIfInBounds_toArray, List.set_cons_zero, List.set_cons_succ]
            have hHeld := HH3.out
            refine wpAnyH_take (i := 3) (oi := ?oiq53) (v := (.bool false)) ?hiq53 (by kernel_rfl) (by kernel_rfl) (by kernel_rfl) ?hqq53 ?hyq53 hHeld ?restq53
            case hiq53 => exact rfl
            case hqq53 => exact fun _ _ _ h => h
            case hyq53 =>
              refine Or.inl ⟨by rfl, ?_⟩
              intro w hSw
              go_simp
              (try with_reducible rfl)
            try simp only [Act.put, List.getElem_toArray, List.getElem_cons_succ, List.getElem_cons_zero, List.setIfInBounds_toArray, List.set_cons_zero, List.set_cons_succ]
            refine wpAnyH_take (i := 4) (oi := ?oiq54) (v := (.bool false)) ?hiq54 (by kernel_rfl) (by kernel_rfl) (by kernel_rfl) ?hqq54 ?hyq54 hHeld ?restq54
            case hiq54 => exact rfl
            case hqq54 => exact fun _ _ _ h => h
            case hyq54 =>
              refine Or.inl ⟨by rfl, ?_⟩
              intro w hSw
              go_simp
              (try with_reducible rfl)
            try simp only [Act.put, List.getElem_toArray, List.getElem_cons_succ, List.getElem_cons_zero, List.setIfInBounds_toArray, List.set_cons_zero, List.set_cons_succ]
            refine wpAnyH_take (i := 5) (oi := ?oiq55) (v := (.slice (some ⟨b, off, none⟩) ps.length ca)) ?hiq55 (by kernel_rfl) (by kernel_rfl) (by kernel_rfl) ?hqq55 ?hyq55 hHeld ?restq55
            case hiq55 => exact rfl
            case hqq55 => exact fun _ _ _ h => h
            case hyq55 =>
              refine Or.inl ⟨by rfl, ?_⟩
              intro w hSw
              go_simp
              (try with_reducible rfl)
            try simp only [Act.put, List.getElem_toArray, List.getElem_cons_succ, List.getElem_cons_zero, List.setIfInBounds_toArray, List.set_cons_zero, List.set_cons_succ]
            refine wpAnyH_take (i := 6) (oi := ?oiq56) (v := (.pointer (some ⟨ww.heap.size, 0, none⟩))) ?hiq56 (by kernel_rfl) (by kernel_rfl) (by kernel_rfl) ?hqq56 ?hyq56 hHeld ?restq56
            case hiq56 => exact rfl
            case hqq56 => exact fun _ _ _ h => h
            case hyq56 =>
              refine Or.inl ⟨by rfl, ?_⟩
              intro w hSw
              go_simp
              (try with_reducible rfl)
            try simp only [Act.put, List.getElem_toArray, List.getElem_cons_succ, List.getElem_cons_zero, List.setIfInBounds_toArray, List.set_cons_zero, List.set_cons_succ]
            refine wpAnyH_take (i := 7) (oi := ?oiq57) (v := (.int .i64 (i : Int))) ?hiq57 (by kernel_rfl) (by kernel_rfl) (by kernel_rfl) ?hqq57 ?hyq57 hHeld ?restq57
            case hiq57 => exact rfl
            case hqq57 => exact fun _ _ _ h => h
            case hyq57 =>
              refine Or.inl ⟨by rfl, ?_⟩
              intro w hSw
              have m0 := (hSw.cell (p := ⟨ww.heap.size, 0, none⟩) hlx).trans x0
              go_simp
              (try with_reducible rfl)
            try simp only [Act.put, List.getElem_toArray, List.getElem_cons_succ, List.getElem_cons_zero, List.setIfInBounds_toArray, List.set_cons_zero, List.set_cons_succ]
            refine wpAnyH_take (i := 8) (oi := ?oiq58) (v := (.pointer (some ⟨b, off + i * 4, none⟩))) ?hiq58 (by kernel_rfl) (by kernel_rfl) (by kernel_rfl) ?hqq58 ?hyq58 hHeld ?restq58
            case hiq58 => exact rfl
            case hqq58 => exact fun _ _ _ h => h
            case hyq58 =>
              refine Or.inl ⟨by rfl, ?_⟩
              intro w hSw
              go_simp
              (try with_reducible rfl)
            try simp only [Act.put, List.getElem_toArray, List.getElem_cons_succ, List.getElem_cons_zero, List.setIfInBounds_toArray, List.set_cons_zero, List.set_cons_succ]
            refine wpAnyH_take (i := 9) (oi := ?oiq59) (v := (.agg #[.int .i64 l.op, .int .i64 l.to, .int .i64 l.a, .int .i64 l.b])) ?hiq59 (by kernel_rfl) (by kernel_rfl) (by kernel_rfl) ?hqq59 ?hyq59 hHeld ?restq59
            case hiq59 => exact rfl
            case hqq59 => exact fun _ _ _ h => h
            case hyq59 =>
              refine Or.inl ⟨by rfl, ?_⟩
              intro w hSw
              have n0 := (hSw.cell (p := ⟨b, _, none⟩) hlb).trans c0
              have n1 := (hSw.cell (p := ⟨b, _, none⟩) hlb).trans c1
              have n2 := (hSw.cell (p := ⟨b, _, none⟩) hlb).trans c2
              have n3 := (hSw.cell (p := ⟨b, _, none⟩) hlb).trans c3
              go_simp
              (try with_reducible rfl)
            try simp only [Act.put, List.getElem_toArray, List.getElem_cons_succ, List.getElem_cons_zero, List.setIfInBounds_toArray, List.set_cons_zero, List.set_cons_succ]
            refine wpAnyH_take (i := 10) (oi := ?oiq60) (v := (.pointer (some ⟨ww.heap.size, 1, none⟩))) ?hiq60 (by kernel_rfl) (by kernel_rfl) (by kernel_rfl) ?hqq60 ?hyq60 hHeld ?restq60
            case hiq60 => exact rfl
            case hqq60 => exact fun _ _ _ h => h
            case hyq60 =>
              refine Or.inl ⟨by rfl, ?_⟩
              intro w hSw
              go_simp
              (try with_reducible rfl)
            try simp only [Act.put, List.getElem_toArray, List.getElem_cons_succ, List.getElem_cons_zero, List.setIfInBounds_toArray, List.set_cons_zero, List.set_cons_succ]
            refine wpAnyH_take (i := 11) (oi := ?oiq61) (v := (.agg #[.int .i64 x.op, .int .i64 x.to, .int .i64 x.a, .int .i64 x.b])) ?hiq61 (by kernel_rfl) (by kernel_rfl) (by kernel_rfl) ?hqq61 ?hyq61 hHeld ?restq61
            case hiq61 => exact rfl
            case hqq61 => exact fun _ _ _ h => h
            case hyq61 =>
              refine Or.inl ⟨by rfl, ?_⟩
              intro w hSw
              have m1 := (hSw.cell (p := ⟨ww.heap.size, 1, none⟩) hlx).trans x1
              have m2 := (hSw.cell (p := ⟨ww.heap.size, 2, none⟩) hlx).trans x2
              have m3 := (hSw.cell (p := ⟨ww.heap.size, 3, none⟩) hlx).trans x3
              have m4 := (hSw.cell (p := ⟨ww.heap.size, 4, none⟩) hlx).trans x4
              go_simp
              (try with_reducible rfl)
            try simp only [Act.put, List.getElem_toArray, List.getElem_cons_succ, List.getElem_cons_zero, List.setIfInBounds_toArray, List.set_cons_zero, List.set_cons_succ]
            refine wpAnyH_ready (rs := [12]) (by kernel_rfl) (by simp) ?_
            refine AllReadyH.cons (o := ?or62_12) ?hr62_12 ?kr62_12 AllReadyH.nil
            case hr62_12 => exact rfl
            case kr62_12 =>
              intro K hK
              go_simp
              refine (HN.out _).mono ?_
              rintro e w4 ⟨rfl, hB⟩
              have HH4 := Lib.hid (hHeld.trans (hB.mono hHeld.size))
              clear hB
              refine hK.out _ _ HH4.out (fun hHeld => ?_)
              clear hK K
              try simp only [Act.put, List.getElem_toArray, List.getElem_cons_succ, List.getElem_cons_zero, List.setIfInBounds_toArray, List.set_cons_zero, List.set_cons_succ]
              have hHeldE := HH4.out
              refine wpAnyH_take (i := 13) (oi := ?oiq51) (v := (.bool true)) ?hiq51 (by kernel_rfl) (by kernel_rfl) (by kernel_rfl) ?hqq51 ?hyq51 hHeld ?restq51
              case hiq51 => exact rfl
              case hqq51 => exact fun _ _ _ h => h
              case hyq51 =>
                refine Or.inl ⟨by rfl, ?_⟩
                intro w hSw
                go_simp
                (try with_reducible rfl)
              try simp only [Act.put, List.getElem_toArray, List.getElem_cons_succ, List.getElem_cons_zero, List.setIfInBounds_toArray, List.set_cons_zero, List.set_cons_succ]
              refine wpAnyH_take (i := 14) (oi := ?oiq52) (v := ?vq52) ?hiq52 (by kernel_rfl) (by kernel_rfl) (by kernel_rfl) ?hqq52 ?hyq52 hHeld ?restq52
              case hiq52 => exact rfl
              case hqq52 => exact fun _ _ _ h => h
              case hyq52 =>
                refine Or.inl ⟨by rfl, ?_⟩
                intro w hSw
                go_simp
                (try with_reducible rfl)
              try simp only [Act.put, List.getElem_toArray, List.getElem_cons_succ, List.getElem_cons_zero, List.setIfInBounds_toArray, List.set_cons_zero, List.set_cons_succ]
              refine wpAnyH_done (by kernel_rfl) ?_ _
              clear hHeld
              refine hKb _ _ ?_
              have HBR := Lib.hid (HB1.out.trans (hHeldE.mono HB1.out.size))
              have HEE := Lib.hid hHeldE
              go_wp2_with fail
              go_ret2
              exact givesIntsE_nil HBR.out
        · show Calls _ _ _ _ (GivesIntsE KL 0 ww)
          rw [hr] at HN
          clear hz hd hpl hvl v1 v2 hln HC HR hx hr
          obtain ⟨W0, hW0⟩ : ∃ W, W = ww.alloc (.cells (eV ⟨(i : Int), x⟩) 41) := ⟨_, rfl⟩
          have hb : Below ww.heap.size ww W0 := by rw [hW0]; exact (Below.refl _ _).alloc (Nat.le_refl _) _
          have HX0 := Lib.hid (show W0.heap[ww.heap.size]? = some (.cells #[.int .i64 (i : Int), .int .i64 x.op, .int .i64 x.to, .int .i64 x.a, .int .i64 x.b] 41 (0, 0)) by rw [hW0]; exact hp_new rfl)
          have HP := Lib.hid (hp.below hb (Nat.le_refl _))
          have HT := Lib.hid (hts.below hb (Nat.le_refl _))
          have HB0 := Lib.hid hb
          clear hb hp hts
          unfold eV at hW0 ⊢
          unfold lv at HV HN
          dsimp only at hW0 ⊢
          go_enter Tryz.func31, Tryz.ntmps31
          go_wp2_with fail
          rw [← hW0]
          clear hW0
          refine (H1.out _ HP.out HT.out).mono ?_
          rintro e w1 ⟨rfl, hB⟩
          have HX1 := Lib.hid (hp_below HX0.out hB (hp_lt HX0.out))
          have HP1 := Lib.hid (HP.out.below hB (Nat.le_refl _))
          have HT1 := Lib.hid (HT.out.below hB (Nat.le_refl _))
          have HB1 := Lib.hid (HB0.out.trans (hB.mono HB0.out.size))
          clear hB
          obtain ⟨b, off, l, rfl, hlb, hl, c0, c1, c2, c3⟩ := HP1.out.at_ hi
          have HL2 := Lib.hid (HLL.out l hl)
          have i1 : (0 : Int) ≤ (i : Int) := by omega
          have i2 : (i : Int) < (ps.length : Int) := by omega
          have i3 : decide ((i : Int) < 0) = false := decide_eq_false (by omega)
          have i4 : decide ((ps.length : Int) ≤ (i : Int)) = false := decide_eq_false (by omega)
          have hlx := hp_lt HX1.out
          have x0 := hp_cell HX1.out (j := 0) (by rfl)
          have x1 := hp_cell HX1.out (j := 1) (by rfl)
          have x2 := hp_cell HX1.out (j := 2) (by rfl)
          have x3 := hp_cell HX1.out (j := 3) (by rfl)
          have x4 := hp_cell HX1.out (j := 4) (by rfl)
          clear hl
          go_wp2_with fail
          rw [← HL2.out] at HN
          clear HL2
          rename_i Qb Kb hKb
          refine wp_region_held_drew (S := (fun W2 => Below w1.heap.size w1 W2)) (by kernel_rfl) ?_ (fun hHeld => ?_)
          · exact (Below.refl _ _).drew
          generalize w1.drew = Wd at *
          refine wpAnyH_take (i := 0) (oi := ?oiq64) (v := (.pointer (some ⟨ww.heap.size, 1, none⟩))) ?hiq64 (by kernel_rfl) (by kernel_rfl) (by kernel_rfl) ?hqq64 ?hyq64 hHeld ?restq64
          case hiq64 => exact rfl
          case hqq64 => exact fun _ _ _ h => h
          case hyq64 =>
            refine Or.inl ⟨by rfl, ?_⟩
            intro w hSw
            go_simp
            (try with_reducible rfl)
          try simp only [Act.put, List.getElem_toArray, List.getElem_cons_succ, List.getElem_cons_zero, List.setIfInBounds_toArray, List.set_cons_zero, List.set_cons_succ]
          refine wpAnyH_take (i := 1) (oi := ?oiq65) (v := (.agg #[.int .i64 x.op, .int .i64 x.to, .int .i64 x.a, .int .i64 x.b])) ?hiq65 (by kernel_rfl) (by kernel_rfl) (by kernel_rfl) ?hqq65 ?hyq65 hHeld ?restq65
          case hiq65 => exact rfl
          case hqq65 => exact fun _ _ _ h => h
          case hyq65 =>
            refine Or.inl ⟨by rfl, ?_⟩
            intro w hSw
            have m1 := (hSw.cell (p := ⟨ww.heap.size, 1, none⟩) hlx).trans x1
            have m2 := (hSw.cell (p := ⟨ww.heap.size, 2, none⟩) hlx).trans x2
            have m3 := (hSw.cell (p := ⟨ww.heap.size, 3, none⟩) hlx).trans x3
            have m4 := (hSw.cell (p := ⟨ww.heap.size, 4, none⟩) hlx).trans x4
            go_simp
            (try with_reducible rfl)
          try simp only [Act.put, List.getElem_toArray, List.getElem_cons_succ, List.getElem_cons_zero, List.setIfInBounds_toArray, List.set_cons_zero, List.set_cons_succ]
          refine wpAnyH_ready (rs := [2]) (by kernel_rfl) (by simp) ?_
          refine AllReadyH.cons (o := ?or78_2) ?hr78_2 ?kr78_2 AllReadyH.nil
          case hr78_2 => exact rfl
          case kr78_2 =>
            intro K hK
            go_simp
            refine (HV.out _).mono ?_
            rintro e w3 ⟨rfl, hB⟩
            have HH3 := Lib.hid (hHeld.trans (hB.mono hHeld.size))
            clear hB
            refine hK.out _ _ HH3.out (fun hHeld => ?_)
            clear hK K
            try simp only [Act.put, List.getElem_toArray, List.getElem_cons_succ, List.getElem_cons_zero, List.setIfInBounds_toArray, List.set_cons_zero, List.set_cons_succ]
            have hHeld := HH3.out
            refine wpAnyH_take (i := 3) (oi := ?oiq68) (v := (.bool false)) ?hiq68 (by kernel_rfl) (by kernel_rfl) (by kernel_rfl) ?hqq68 ?hyq68 hHeld ?restq68
            case hiq68 => exact rfl
            case hqq68 => exact fun _ _ _ h => h
            case hyq68 =>
              refine Or.inl ⟨by rfl, ?_⟩
              intro w hSw
              go_simp
              (try with_reducible rfl)
            try simp only [Act.put, List.getElem_toArray, List.getElem_cons_succ, List.getElem_cons_zero, List.setIfInBounds_toArray, List.set_cons_zero, List.set_cons_succ]
            refine wpAnyH_take (i := 4) (oi := ?oiq69) (v := (.bool false)) ?hiq69 (by kernel_rfl) (by kernel_rfl) (by kernel_rfl) ?hqq69 ?hyq69 hHeld ?restq69
            case hiq69 => exact rfl
            case hqq69 => exact fun _ _ _ h => h
            case hyq69 =>
              refine Or.inl ⟨by rfl, ?_⟩
              intro w hSw
              go_simp
              (try with_reducible rfl)
            try simp only [Act.put, List.getElem_toArray, List.getElem_cons_succ, List.getElem_cons_zero, List.setIfInBounds_toArray, List.set_cons_zero, List.set_cons_succ]
            refine wpAnyH_take (i := 5) (oi := ?oiq70) (v := (.slice (some ⟨b, off, none⟩) ps.length ca)) ?hiq70 (by kernel_rfl) (by kernel_rfl) (by kernel_rfl) ?hqq70 ?hyq70 hHeld ?restq70
            case hiq70 => exact rfl
            case hqq70 => exact fun _ _ _ h => h
            case hyq70 =>
              refine Or.inl ⟨by rfl, ?_⟩
              intro w hSw
              go_simp
              (try with_reducible rfl)
            try simp only [Act.put, List.getElem_toArray, List.getElem_cons_succ, List.getElem_cons_zero, List.setIfInBounds_toArray, List.set_cons_zero, List.set_cons_succ]
            refine wpAnyH_take (i := 6) (oi := ?oiq71) (v := (.pointer (some ⟨ww.heap.size, 0, none⟩))) ?hiq71 (by kernel_rfl) (by kernel_rfl) (by kernel_rfl) ?hqq71 ?hyq71 hHeld ?restq71
            case hiq71 => exact rfl
            case hqq71 => exact fun _ _ _ h => h
            case hyq71 =>
              refine Or.inl ⟨by rfl, ?_⟩
              intro w hSw
              go_simp
              (try with_reducible rfl)
            try simp only [Act.put, List.getElem_toArray, List.getElem_cons_succ, List.getElem_cons_zero, List.setIfInBounds_toArray, List.set_cons_zero, List.set_cons_succ]
            refine wpAnyH_take (i := 7) (oi := ?oiq72) (v := (.int .i64 (i : Int))) ?hiq72 (by kernel_rfl) (by kernel_rfl) (by kernel_rfl) ?hqq72 ?hyq72 hHeld ?restq72
            case hiq72 => exact rfl
            case hqq72 => exact fun _ _ _ h => h
            case hyq72 =>
              refine Or.inl ⟨by rfl, ?_⟩
              intro w hSw
              have m0 := (hSw.cell (p := ⟨ww.heap.size, 0, none⟩) hlx).trans x0
              go_simp
              (try with_reducible rfl)
            try simp only [Act.put, List.getElem_toArray, List.getElem_cons_succ, List.getElem_cons_zero, List.setIfInBounds_toArray, List.set_cons_zero, List.set_cons_succ]
            refine wpAnyH_take (i := 8) (oi := ?oiq73) (v := (.pointer (some ⟨b, off + i * 4, none⟩))) ?hiq73 (by kernel_rfl) (by kernel_rfl) (by kernel_rfl) ?hqq73 ?hyq73 hHeld ?restq73
            case hiq73 => exact rfl
            case hqq73 => exact fun _ _ _ h => h
            case hyq73 =>
              refine Or.inl ⟨by rfl, ?_⟩
              intro w hSw
              go_simp
              (try with_reducible rfl)
            try simp only [Act.put, List.getElem_toArray, List.getElem_cons_succ, List.getElem_cons_zero, List.setIfInBounds_toArray, List.set_cons_zero, List.set_cons_succ]
            refine wpAnyH_take (i := 9) (oi := ?oiq74) (v := (.agg #[.int .i64 l.op, .int .i64 l.to, .int .i64 l.a, .int .i64 l.b])) ?hiq74 (by kernel_rfl) (by kernel_rfl) (by kernel_rfl) ?hqq74 ?hyq74 hHeld ?restq74
            case hiq74 => exact rfl
            case hqq74 => exact fun _ _ _ h => h
            case hyq74 =>
              refine Or.inl ⟨by rfl, ?_⟩
              intro w hSw
              have n0 := (hSw.cell (p := ⟨b, _, none⟩) hlb).trans c0
              have n1 := (hSw.cell (p := ⟨b, _, none⟩) hlb).trans c1
              have n2 := (hSw.cell (p := ⟨b, _, none⟩) hlb).trans c2
              have n3 := (hSw.cell (p := ⟨b, _, none⟩) hlb).trans c3
              go_simp
              (try with_reducible rfl)
            try simp only [Act.put, List.getElem_toArray, List.getElem_cons_succ, List.getElem_cons_zero, List.setIfInBounds_toArray, List.set_cons_zero, List.set_cons_succ]
            refine wpAnyH_take (i := 10) (oi := ?oiq75) (v := (.pointer (some ⟨ww.heap.size, 1, none⟩))) ?hiq75 (by kernel_rfl) (by kernel_rfl) (by kernel_rfl) ?hqq75 ?hyq75 hHeld ?restq75
            case hiq75 => exact rfl
            case hqq75 => exact fun _ _ _ h => h
            case hyq75 =>
              refine Or.inl ⟨by rfl, ?_⟩
              intro w hSw
              go_simp
              (try with_reducible rfl)
            try simp only [Act.put, List.getElem_toArray, List.getElem_cons_succ, List.getElem_cons_zero, List.setIfInBounds_toArray, List.set_cons_zero, List.set_cons_succ]
            refine wpAnyH_take (i := 11) (oi := ?oiq76) (v := (.agg #[.int .i64 x.op, .int .i64 x.to, .int .i64 x.a, .int .i64 x.b])) ?hiq76 (by kernel_rfl) (by kernel_rfl) (by kernel_rfl) ?hqq76 ?hyq76 hHeld ?restq76
            case hiq76 => exact rfl
            case hqq76 => exact fun _ _ _ h => h
            case hyq76 =>
              refine Or.inl ⟨by rfl, ?_⟩
              intro w hSw
              have m1 := (hSw.cell (p := ⟨ww.heap.size, 1, none⟩) hlx).trans x1
              have m2 := (hSw.cell (p := ⟨ww.heap.size, 2, none⟩) hlx).trans x2
              have m3 := (hSw.cell (p := ⟨ww.heap.size, 3, none⟩) hlx).trans x3
              have m4 := (hSw.cell (p := ⟨ww.heap.size, 4, none⟩) hlx).trans x4
              go_simp
              (try with_reducible rfl)
            try simp only [Act.put, List.getElem_toArray, List.getElem_cons_succ, List.getElem_cons_zero, List.setIfInBounds_toArray, List.set_cons_zero, List.set_cons_succ]
            refine wpAnyH_ready (rs := [12]) (by kernel_rfl) (by simp) ?_
            refine AllReadyH.cons (o := ?or77_12) ?hr77_12 ?kr77_12 AllReadyH.nil
            case hr77_12 => exact rfl
            case kr77_12 =>
              intro K hK
              go_simp
              refine (HN.out _).mono ?_
              rintro e w4 ⟨rfl, hB⟩
              have HH4 := Lib.hid (hHeld.trans (hB.mono hHeld.size))
              clear hB
              refine hK.out _ _ HH4.out (fun hHeld => ?_)
              clear hK K
              try simp only [Act.put, List.getElem_toArray, List.getElem_cons_succ, List.getElem_cons_zero, List.setIfInBounds_toArray, List.set_cons_zero, List.set_cons_succ]
              have hHeldE := HH4.out
              refine wpAnyH_take (i := 13) (oi := ?oiq66) (v := (.bool false)) ?hiq66 (by kernel_rfl) (by kernel_rfl) (by kernel_rfl) ?hqq66 ?hyq66 hHeld ?restq66
              case hiq66 => exact rfl
              case hqq66 => exact fun _ _ _ h => h
              case hyq66 =>
                refine Or.inl ⟨by rfl, ?_⟩
                intro w hSw
                go_simp
                (try with_reducible rfl)
              try simp only [Act.put, List.getElem_toArray, List.getElem_cons_succ, List.getElem_cons_zero, List.setIfInBounds_toArray, List.set_cons_zero, List.set_cons_succ]
              refine wpAnyH_take (i := 14) (oi := ?oiq67) (v := ?vq67) ?hiq67 (by kernel_rfl) (by kernel_rfl) (by kernel_rfl) ?hqq67 ?hyq67 hHeld ?restq67
              case hiq67 => exact rfl
              case hqq67 => exact fun _ _ _ h => h
              case hyq67 =>
                refine Or.inl ⟨by rfl, ?_⟩
                intro w hSw
                go_simp
                (try with_reducible rfl)
              try simp only [Act.put, List.getElem_toArray, List.getElem_cons_succ, List.getElem_cons_zero, List.setIfInBounds_toArray, List.set_cons_zero, List.set_cons_succ]
              refine wpAnyH_done (by kernel_rfl) ?_ _
              clear hHeld
              refine hKb _ _ ?_
              have HBR := Lib.hid (HB1.out.trans (hHeldE.mono HB1.out.size))
              have HEE := Lib.hid hHeldE
              have HX5 := Lib.hid (hp_below HX1.out HEE.out (hp_lt HX1.out))
              clear x0 x1 x2 x3 x4
              have x0 := hp_cell HX5.out (j := 0) (by rfl)
              have x1 := hp_cell HX5.out (j := 1) (by rfl)
              have x2 := hp_cell HX5.out (j := 2) (by rfl)
              have x3 := hp_cell HX5.out (j := 3) (by rfl)
              have x4 := hp_cell HX5.out (j := 4) (by rfl)
              go_wp2_with fail
              refine (HK.out _ (HP1.out.below HEE.out (Nat.le_refl _)) (HT1.out.below HEE.out (Nat.le_refl _))).mono ?_
              rintro e w9 ⟨a9, k9, rfl, hq, hB⟩
              have HO := Lib.hid (own_mono hq HBR.out.size)
              have HB7 := Lib.hid (HBR.out.trans (hB.mono HBR.out.size))
              clear hq hB
              go_wp2_with fail
              go_ret2
              exact ⟨_, _, rfl, HO.out, HB7.out⟩
    · have hc : klC ps ts m = 4 := by
        unfold klC
        have h4 : plC ps m.at_ = 4 := by
          unfold plC at hpl ⊢
          split
          · rename_i hb; rw [if_pos hb] at hpl; exact absurd rfl hpl
          · rfl
        rw [hd, h4]
        rfl
      have hat : m.at_ < 0 ∨ (ps.length : Int) ≤ m.at_ := by
        rcases Int.lt_or_le m.at_ 0 with h1 | h1
        · exact .inl h1
        · rcases Int.lt_or_le m.at_ (ps.length : Int) with h2 | h2
          · exfalso
            apply hpl
            unfold plC
            rw [if_pos (btw_true.2 ⟨h1, by omega⟩)]
          · exact .inr h2
      rw [show klR ps ts m = [] by unfold klR; rw [hc]; rfl, hc]
      rw [hd] at H1
      clear hpl hd hc
      obtain ⟨W0, hW0⟩ : ∃ W, W = ww.alloc (.cells (eV m) 41) := ⟨_, rfl⟩
      have hb : Below ww.heap.size ww W0 := by rw [hW0]; exact (Below.refl _ _).alloc (Nat.le_refl _) _
      have HX0 := Lib.hid (show W0.heap[ww.heap.size]? = some (.cells #[.int .i64 m.at_, .int .i64 m.ln.op, .int .i64 m.ln.to, .int .i64 m.ln.a, .int .i64 m.ln.b] 41 (0, 0)) by rw [hW0]; exact hp_new rfl)
      have HP := Lib.hid (hp.below hb (Nat.le_refl _))
      have HT := Lib.hid (hts.below hb (Nat.le_refl _))
      have HB0 := Lib.hid hb
      clear hb hp hts
      unfold eV at hW0 ⊢
      by_cases h0 : m.at_ < 0
      · have d0 : decide (m.at_ < 0) = true := decide_eq_true h0
        go_enter Tryz.func31, Tryz.ntmps31
        go_wp2_with fail
        rw [← hW0]
        clear hW0
        refine (H1.out _ HP.out HT.out).mono ?_
        rintro e w1 ⟨rfl, hB⟩
        have HX1 := Lib.hid (hp_below HX0.out hB (hp_lt HX0.out))
        have HP1 := Lib.hid (HP.out.below hB (Nat.le_refl _))
        have HT1 := Lib.hid (HT.out.below hB (Nat.le_refl _))
        have HB1 := Lib.hid (HB0.out.trans (hB.mono HB0.out.size))
        clear hB
        have x0 := hp_cell HX1.out (j := 0) (by rfl)
        go_wp2_with fail
        go_ret2
        exact givesIntsE_nil HB1.out
      · have d0 : decide (m.at_ < 0) = false := decide_eq_false h0
        have d1 : decide ((ps.length : Int) ≤ m.at_) = true := decide_eq_true (by omega)
        go_enter Tryz.func31, Tryz.ntmps31
        go_wp2_with fail
        rw [← hW0]
        clear hW0
        refine (H1.out _ HP.out HT.out).mono ?_
        rintro e w1 ⟨rfl, hB⟩
        have HX1 := Lib.hid (hp_below HX0.out hB (hp_lt HX0.out))
        have HP1 := Lib.hid (HP.out.below hB (Nat.le_refl _))
        have HT1 := Lib.hid (HT.out.below hB (Nat.le_refl _))
        have HB1 := Lib.hid (HB0.out.trans (hB.mono HB0.out.size))
        clear hB
        have x0 := hp_cell HX1.out (j := 0) (by rfl)
        go_wp2_with fail
        go_ret2
        exact givesIntsE_nil HB1.out
  · have hc : klC ps ts m = feL [vp ps, vts ts] := by
      have h9 : feL [feL [vp ps, vts ts], plC ps m.at_] = feL [vp ps, vts ts] := by rw [feL]; exact if_neg hd
      unfold klC
      rw [h9, if_neg hd]
    rw [show klR ps ts m = [] by unfold klR; rw [if_neg (by rw [hc]; exact hd)], hc]
    generalize feL [vp ps, vts ts] = d1 at *
    have hq1 : (d1 != 0) = true := by simpa using hd
    clear hd hc
    obtain ⟨W0, hW0⟩ : ∃ W, W = ww.alloc (.cells (eV m) 41) := ⟨_, rfl⟩
    have hb : Below ww.heap.size ww W0 := by rw [hW0]; exact (Below.refl _ _).alloc (Nat.le_refl _) _
    have HX0 := Lib.hid (show W0.heap[ww.heap.size]? = some (.cells #[.int .i64 m.at_, .int .i64 m.ln.op, .int .i64 m.ln.to, .int .i64 m.ln.a, .int .i64 m.ln.b] 41 (0, 0)) by rw [hW0]; exact hp_new rfl)
    have HP := Lib.hid (hp.below hb (Nat.le_refl _))
    have HT := Lib.hid (hts.below hb (Nat.le_refl _))
    have HB0 := Lib.hid hb
    clear hb hp hts
    unfold eV at hW0 ⊢
    go_enter Tryz.func31, Tryz.ntmps31
    go_wp2_with fail
    rw [← hW0]
    clear hW0
    refine (H1.out _ HP.out HT.out).mono ?_
    rintro e w1 ⟨rfl, hB⟩
    have HX1 := Lib.hid (hp_below HX0.out hB (hp_lt HX0.out))
    have HP1 := Lib.hid (HP.out.below hB (Nat.le_refl _))
    have HT1 := Lib.hid (HT.out.below hB (Nat.le_refl _))
    have HB1 := Lib.hid (HB0.out.trans (hB.mono HB0.out.size))
    clear hB
    go_wp2_with fail
    go_ret2
    exact givesIntsE_nil HB1.out

end Go.Proofs.YtjciojoeifekeaaGreat

/- SeekMutants: the walk. -/
set_option linter.unusedVariables false
set_option linter.unusedSimpArgs false
namespace Go.Proofs.YtjciojoeifekeaaGreat
open Go.RowKit Go.Shelf Tinker
set_option maxRecDepth 100000 in
set_option maxHeartbeats 1000000 in
theorem sameE5_self (n : Nat) (a b : Option Addr) (ca cb : Nat) (xs : List E) (w : World) (hn : xs.length = n) (ha : EditsAt w a xs) (hb : EditsAt w b xs) (hm : n ≤ 100000) :
    Calls Tryz.prog 32 #[.slice a n ca, .slice b n cb] w fun e w' => e = .returned (.bool true) ∧ Below w.heap.size w w' := by
  have HN := Lib.hid hn
  have hnn : ((n : Int) != (n : Int)) = false := by simp
  clear hn
  go_enter Tryz.func32, Tryz.ntmps32
  go_wp2_with fail
  go_loopw [5] (fun s5 wr => ∃ k : Nat, k ≤ n ∧ s5 = .int .i64 k ∧ Below w.heap.size w wr) (fun s5 _ => n - (intOf s5).toNat)
  case atStart => exact ⟨0, Nat.zero_le _, rfl, Below.refl _ _⟩
  case round =>
    obtain ⟨k, hk, rfl, hB⟩ := hrel
    by_cases hlt : k < n
    · obtain ⟨b1, o1, l, rfl, hl1, hx, c0, c1, c2, c3, c4⟩ := (ha.below hB (Nat.le_refl _)).at_ (show k < xs.length by rw [HN.out]; exact hlt)
      obtain ⟨b2, o2, m, rfl, hl2, hy, d0, d1, d2, d3, d4⟩ := (hb.below hB (Nat.le_refl _)).at_ (show k < xs.length by rw [HN.out]; exact hlt)
      rw [hx] at hy
      injection hy with hy
      subst hy
      have HB := Lib.hid hB
      clear hx ha hb hB
      go_wp2_with fail
      go_quiet (fail)
      go_wp2_with fail
      go_roundw
      case rel => exact ⟨k + 1, by omega, by go_num, HB.out.trans (Below.mono ⟨rfl, rfl, rfl, Nat.le_refl _, fun _ _ => rfl⟩ HB.out.size)⟩
      case measure => simp [intOf]; omega
    · go_wp2
      go_ret
      exact ⟨rfl, hB⟩


theorem kl_ok {ps : List L} {ts : List T} {m : E} (h : klC ps ts m = 0) : vpx ps [m] 0 = 0 ∧ vts ts = 0 ∧ trR true ps [m] ts = klR ps ts m := by
  have h0 := h
  unfold klC at h
  split at h
  · rename_i hz
    split at h
    · rename_i hn
      obtain ⟨v1, v2, i, x, rfl, hi⟩ := klC_at hz
      have hx : isLn x = true := (Bool.and_eq_true _ _ ▸ hn).1
      have v := vpx_one v1 hi hx
      refine ⟨v, v2, ?_⟩
      rw [tr_one v v2]
      unfold klR
      rw [if_pos h0]
    · cases h
  · rename_i hz
    exact absurd h hz
theorem klR_len (ps : List L) (ts : List T) (m : E) (h : ts.length ≤ 1000) : (klR ps ts m).length ≤ 1000 := by
  unfold klR
  split
  · unfold trL plc
    refine Nat.le_trans (plcTo_length _ _) ?_
    rw [List.length_map]
    exact h
  · simp

set_option maxRecDepth 100000 in
set_option maxHeartbeats 8000000 in
theorem seekMutants_walk (a : Option Addr) (ca : Nat) (ps : List L) (h : Option Addr) (ch : Nat) (ts : List T) (m : E) (w : World) (hp : LinesAt w a ps) (hts : TestsAt w h ts) (ht : ts.length ≤ maxLen) :
    Calls Tryz.prog 7 #[.slice a ps.length ca, .slice h ts.length ch, .agg #[.int .i64 m.at_, .int .i64 m.ln.op, .int .i64 m.ln.to, .int .i64 m.ln.a, .int .i64 m.ln.b]] w fun e w' => e = .returned (.bool true) ∧ Below w.heap.size w w' := by
  have HK := Lib.hid (fun w => same5_any w)
  have HL := Lib.hid (fun w => long5_any a none ps.length 0 ca 0 w)
  have HM := Lib.hid (fun w h1 => many4_any h ch ts w h1 ht)
  obtain ⟨W0, hW0⟩ : ∃ W, W = w.alloc (.cells #[.int .i64 m.at_, .int .i64 m.ln.op, .int .i64 m.ln.to, .int .i64 m.ln.a, .int .i64 m.ln.b] 41) := ⟨_, rfl⟩
  have hb : Below w.heap.size w W0 := by rw [hW0]; exact (Below.refl _ _).alloc (Nat.le_refl _) _
  have HX := Lib.hid (show W0.heap[w.heap.size]? = some (.cells #[.int .i64 m.at_, .int .i64 m.ln.op, .int .i64 m.ln.to, .int .i64 m.ln.a, .int .i64 m.ln.b] 41 (0, 0)) by rw [hW0]; exact hp_new rfl)
  have HP := Lib.hid (hp.below hb (Nat.le_refl _))
  have HT := Lib.hid (hts.below hb (Nat.le_refl _))
  have HB := Lib.hid hb
  clear hp hts hb
  by_cases g1 : 100 < ps.length
  · rw [show (decide (100 < ps.length) || decide (100 < 0)) = true by simpa using g1] at HL
    clear g1 HP HT HM HX
    go_enter Tryz.func7, Tryz.ntmps7
    go_wp2_with fail
    rw [← hW0]
    clear hW0
    refine (HL.out _).mono ?_
    rintro e we0 ⟨rfl, rfl⟩
    go_wp2_with fail
    refine (HK.out _).mono ?_
    rintro e w9 ⟨rfl, hB⟩
    have HB := Lib.hid (HB.out.trans (hB.mono HB.out.size))
    clear hB
    go_wp2_with fail
    go_ret
    exact ⟨rfl, HB.out⟩
  rw [show (decide (100 < ps.length) || decide (100 < 0)) = false by simp; omega] at HL
  cases g2 : manyC ts
  case true =>
    rw [g2] at HM
    clear g1 g2
    go_enter Tryz.func7, Tryz.ntmps7
    go_wp2_with fail
    rw [← hW0]
    clear hW0
    refine (HL.out _).mono ?_
    rintro e we0 ⟨rfl, rfl⟩
    go_wp2_with fail
    refine (HM.out _ HT.out).mono ?_
    rintro e w1 ⟨rfl, hB⟩
    have HP := Lib.hid (HP.out.below hB (Nat.le_refl _))
    have HT := Lib.hid (HT.out.below hB (Nat.le_refl _))
    have HX := Lib.hid (hp_below HX.out hB (hp_lt HX.out))
    have HB := Lib.hid (HB.out.trans (hB.mono HB.out.size))
    clear hB
    go_wp2_with fail
    refine (HK.out _).mono ?_
    rintro e w9 ⟨rfl, hB⟩
    have HB := Lib.hid (HB.out.trans (hB.mono HB.out.size))
    clear hB
    go_wp2_with fail
    go_ret
    exact ⟨rfl, HB.out⟩
  case false =>
    obtain ⟨t50, tml⟩ := manyC_no g2
    rw [g2] at HM
    have hml : ∀ t ∈ ts, t.inn.length ≤ 1000 := fun t h => Nat.le_trans (tml t h) (by decide)
    have C1 := Lib.hid (fun w h => sMutants_any a ca ps w h (by omega))
    have C2 := Lib.hid (fun w h => rMutants_any a ca ps w h)
    have C3 := Lib.hid (fun w h1 h2 => sKills_any a h ca ch ps ts m w h1 h2 (by omega) (by omega) hml)
    have C4 := Lib.hid (fun w h1 h2 => rKills_any a h ca ch ps ts m w h1 h2)
    have HS1 := Lib.hid (fun a b c d w h1 h2 => sameE5_self (muR ps).length a b c d (muR ps) w rfl h1 h2 (by have := muR_len ps; omega))
    have HS2 := Lib.hid (fun a b c d w h1 h2 => sameI4_self (klR ps ts m).length a b c d (klR ps ts m) w rfl h1 h2 (klR_len ps ts m (by omega)))
    have CB := Lib.hid (fun g w h1 h2 h3 => pBreaks_any a g h ca 1 ch ps [m] ts w h1 h2 h3 (by simp) (by omega) hml (by omega))
    simp only [List.length_cons, List.length_nil, Nat.zero_add] at CB
    have e1 : (vp ps != vp ps) = false := by simp
    have e2 : (klC ps ts m != klC ps ts m) = false := by simp
    unfold eV at C3 C4
    generalize muR ps = MU at *
    generalize vp ps = q1 at *
    by_cases hz : klC ps ts m = 0
    · obtain ⟨f1, f2, f3⟩ := kl_ok hz
      rw [f3, f2, f1] at CB
      rw [hz] at C3 C4
      generalize klR ps ts m = KL at *
      clear hz f1 f2 f3 e2 g1 g2 tml hml t50
      go_enter Tryz.func7, Tryz.ntmps7
      go_wp2_with fail
      rw [← hW0]
      clear hW0
      refine (HL.out _).mono ?_
      rintro e we0 ⟨rfl, rfl⟩
      go_wp2_with fail
      refine (HM.out _ HT.out).mono ?_
      rintro e w1 ⟨rfl, hB⟩
      have HP := Lib.hid (HP.out.below hB (Nat.le_refl _))
      have HT := Lib.hid (HT.out.below hB (Nat.le_refl _))
      have HX := Lib.hid (hp_below HX.out hB (hp_lt HX.out))
      have HB := Lib.hid (HB.out.trans (hB.mono HB.out.size))
      clear hB
      go_wp2_with fail
      refine (C1.out _ HP.out).mono ?_
      rintro e w2 ⟨a1, k1, rfl, hq, hB⟩
      have HE1 := Lib.hid hq
      clear hq
      have HP := Lib.hid (HP.out.below hB (Nat.le_refl _))
      have HT := Lib.hid (HT.out.below hB (Nat.le_refl _))
      have HX := Lib.hid (hp_below HX.out hB (hp_lt HX.out))
      have HB := Lib.hid (HB.out.trans (hB.mono HB.out.size))
      clear hB
      go_wp2_with fail
      refine (C2.out _ HP.out).mono ?_
      rintro e w3 ⟨a2, k2, rfl, hq, hB⟩
      have HE1 := Lib.hid (own_below HE1.out hB (Nat.le_refl _))
      have HE2 := Lib.hid (edits_of_own hq).1
      clear hq
      have HP := Lib.hid (HP.out.below hB (Nat.le_refl _))
      have HT := Lib.hid (HT.out.below hB (Nat.le_refl _))
      have HX := Lib.hid (hp_below HX.out hB (hp_lt HX.out))
      have HB := Lib.hid (HB.out.trans (hB.mono HB.out.size))
      clear hB
      have x0 := hp_cell HX.out (j := 0) (by rfl)
      have x1 := hp_cell HX.out (j := 1) (by rfl)
      have x2 := hp_cell HX.out (j := 2) (by rfl)
      have x3 := hp_cell HX.out (j := 3) (by rfl)
      have x4 := hp_cell HX.out (j := 4) (by rfl)
      go_wp2_with fail
      refine (C3.out _ HP.out HT.out).mono ?_
      rintro e w4 ⟨a3, k3, rfl, hq, hB⟩
      have HE1 := Lib.hid (own_below HE1.out hB (Nat.le_refl _))
      have HE2 := Lib.hid (HE2.out.below hB (Nat.le_refl _))
      have HI1 := Lib.hid (ownL_of hq).at_
      clear hq
      have HP := Lib.hid (HP.out.below hB (Nat.le_refl _))
      have HT := Lib.hid (HT.out.below hB (Nat.le_refl _))
      have HX := Lib.hid (hp_below HX.out hB (hp_lt HX.out))
      have HB := Lib.hid (HB.out.trans (hB.mono HB.out.size))
      clear hB
      clear x0 x1 x2 x3 x4
      have x0 := hp_cell HX.out (j := 0) (by rfl)
      have x1 := hp_cell HX.out (j := 1) (by rfl)
      have x2 := hp_cell HX.out (j := 2) (by rfl)
      have x3 := hp_cell HX.out (j := 3) (by rfl)
      have x4 := hp_cell HX.out (j := 4) (by rfl)
      go_wp2_with fail
      refine (C4.out _ HP.out HT.out).mono ?_
      rintro e w5 ⟨a4, k4, rfl, hq, hB⟩
      have HE1 := Lib.hid (own_below HE1.out hB (Nat.le_refl _))
      have HE2 := Lib.hid (HE2.out.below hB (Nat.le_refl _))
      have HI1 := Lib.hid (HI1.out.below hB (Nat.le_refl _))
      have HI2 := Lib.hid (ownL_of hq).at_
      clear hq
      have HP := Lib.hid (HP.out.below hB (Nat.le_refl _))
      have HT := Lib.hid (HT.out.below hB (Nat.le_refl _))
      have HX := Lib.hid (hp_below HX.out hB (hp_lt HX.out))
      have HB := Lib.hid (HB.out.trans (hB.mono HB.out.size))
      clear hB
      clear x0 x1 x2 x3 x4
      go_wp2_with fail
      refine (HS1.out _ _ _ _ _ (edits_of_own HE1.out).1 HE2.out).mono ?_
      rintro e w6 ⟨rfl, hB⟩
      have HI1 := Lib.hid (HI1.out.below hB (Nat.le_refl _))
      have HI2 := Lib.hid (HI2.out.below hB (Nat.le_refl _))
      have HP := Lib.hid (HP.out.below hB (Nat.le_refl _))
      have HT := Lib.hid (HT.out.below hB (Nat.le_refl _))
      have HX := Lib.hid (hp_below HX.out hB (hp_lt HX.out))
      have HB := Lib.hid (HB.out.trans (hB.mono HB.out.size))
      clear hB
      go_wp2_with fail
      refine (HS2.out _ _ _ _ _ HI1.out HI2.out).mono ?_
      rintro e w7 ⟨rfl, hB⟩
      have HI1 := Lib.hid (HI1.out.below hB (Nat.le_refl _))
      have HP := Lib.hid (HP.out.below hB (Nat.le_refl _))
      have HT := Lib.hid (HT.out.below hB (Nat.le_refl _))
      have HX := Lib.hid (hp_below HX.out hB (hp_lt HX.out))
      have HB := Lib.hid (HB.out.trans (hB.mono HB.out.size))
      clear hB
      have x0 := hp_cell HX.out (j := 0) (by rfl)
      have x1 := hp_cell HX.out (j := 1) (by rfl)
      have x2 := hp_cell HX.out (j := 2) (by rfl)
      have x3 := hp_cell HX.out (j := 3) (by rfl)
      have x4 := hp_cell HX.out (j := 4) (by rfl)
      have hal := (Below.refl w7.heap.size w7).alloc (Nat.le_refl _) (.cells #[.int .i64 m.at_, .int .i64 m.ln.op, .int .i64 m.ln.to, .int .i64 m.ln.a, .int .i64 m.ln.b] 41)
      have HE := Lib.hid (edit_at w7 41 m)
      have HP := Lib.hid (HP.out.below hal (Nat.le_refl _))
      have HT := Lib.hid (HT.out.below hal (Nat.le_refl _))
      have HI1 := Lib.hid (HI1.out.below hal (Nat.le_refl _))
      have HB := Lib.hid (HB.out.trans (hal.mono HB.out.size))
      clear hal
      go_wp2_with fail
      refine (CB.out _ _ HP.out HE.out HT.out).mono ?_
      rintro e w8 ⟨a5, k5, rfl, hq, hB⟩
      have HI1 := Lib.hid (HI1.out.below hB (Nat.le_refl _))
      have HI3 := Lib.hid (ownL_of hq).at_
      have HB := Lib.hid (HB.out.trans (hB.mono HB.out.size))
      clear hq hB x0 x1 x2 x3 x4 HE
      go_wp2_with fail
      refine (HS2.out _ _ _ _ _ HI3.out HI1.out).mono ?_
      rintro e w10 ⟨rfl, hB⟩
      have HB := Lib.hid (HB.out.trans (hB.mono HB.out.size))
      clear hB
      go_wp2_with fail
      refine (HK.out _).mono ?_
      rintro e w9 ⟨rfl, hB⟩
      have HB := Lib.hid (HB.out.trans (hB.mono HB.out.size))
      clear hB
      go_wp2_with fail
      go_ret
      exact ⟨rfl, HB.out⟩
    · generalize klR ps ts m = KL at *
      generalize klC ps ts m = q2 at *
      have e3 : (q2 != 0) = true := by simpa using hz
      clear hz g1 g2 tml hml t50 CB
      go_enter Tryz.func7, Tryz.ntmps7
      go_wp2_with fail
      rw [← hW0]
      clear hW0
      refine (HL.out _).mono ?_
      rintro e we0 ⟨rfl, rfl⟩
      go_wp2_with fail
      refine (HM.out _ HT.out).mono ?_
      rintro e w1 ⟨rfl, hB⟩
      have HP := Lib.hid (HP.out.below hB (Nat.le_refl _))
      have HT := Lib.hid (HT.out.below hB (Nat.le_refl _))
      have HX := Lib.hid (hp_below HX.out hB (hp_lt HX.out))
      have HB := Lib.hid (HB.out.trans (hB.mono HB.out.size))
      clear hB
      go_wp2_with fail
      refine (C1.out _ HP.out).mono ?_
      rintro e w2 ⟨a1, k1, rfl, hq, hB⟩
      have HE1 := Lib.hid hq
      clear hq
      have HP := Lib.hid (HP.out.below hB (Nat.le_refl _))
      have HT := Lib.hid (HT.out.below hB (Nat.le_refl _))
      have HX := Lib.hid (hp_below HX.out hB (hp_lt HX.out))
      have HB := Lib.hid (HB.out.trans (hB.mono HB.out.size))
      clear hB
      go_wp2_with fail
      refine (C2.out _ HP.out).mono ?_
      rintro e w3 ⟨a2, k2, rfl, hq, hB⟩
      have HE1 := Lib.hid (own_below HE1.out hB (Nat.le_refl _))
      have HE2 := Lib.hid (edits_of_own hq).1
      clear hq
      have HP := Lib.hid (HP.out.below hB (Nat.le_refl _))
      have HT := Lib.hid (HT.out.below hB (Nat.le_refl _))
      have HX := Lib.hid (hp_below HX.out hB (hp_lt HX.out))
      have HB := Lib.hid (HB.out.trans (hB.mono HB.out.size))
      clear hB
      have x0 := hp_cell HX.out (j := 0) (by rfl)
      have x1 := hp_cell HX.out (j := 1) (by rfl)
      have x2 := hp_cell HX.out (j := 2) (by rfl)
      have x3 := hp_cell HX.out (j := 3) (by rfl)
      have x4 := hp_cell HX.out (j := 4) (by rfl)
      go_wp2_with fail
      refine (C3.out _ HP.out HT.out).mono ?_
      rintro e w4 ⟨a3, k3, rfl, hq, hB⟩
      have HE1 := Lib.hid (own_below HE1.out hB (Nat.le_refl _))
      have HE2 := Lib.hid (HE2.out.below hB (Nat.le_refl _))
      have HI1 := Lib.hid (ownL_of hq).at_
      clear hq
      have HP := Lib.hid (HP.out.below hB (Nat.le_refl _))
      have HT := Lib.hid (HT.out.below hB (Nat.le_refl _))
      have HX := Lib.hid (hp_below HX.out hB (hp_lt HX.out))
      have HB := Lib.hid (HB.out.trans (hB.mono HB.out.size))
      clear hB
      clear x0 x1 x2 x3 x4
      have x0 := hp_cell HX.out (j := 0) (by rfl)
      have x1 := hp_cell HX.out (j := 1) (by rfl)
      have x2 := hp_cell HX.out (j := 2) (by rfl)
      have x3 := hp_cell HX.out (j := 3) (by rfl)
      have x4 := hp_cell HX.out (j := 4) (by rfl)
      go_wp2_with fail
      refine (C4.out _ HP.out HT.out).mono ?_
      rintro e w5 ⟨a4, k4, rfl, hq, hB⟩
      have HE1 := Lib.hid (own_below HE1.out hB (Nat.le_refl _))
      have HE2 := Lib.hid (HE2.out.below hB (Nat.le_refl _))
      have HI1 := Lib.hid (HI1.out.below hB (Nat.le_refl _))
      have HI2 := Lib.hid (ownL_of hq).at_
      clear hq
      have HP := Lib.hid (HP.out.below hB (Nat.le_refl _))
      have HT := Lib.hid (HT.out.below hB (Nat.le_refl _))
      have HX := Lib.hid (hp_below HX.out hB (hp_lt HX.out))
      have HB := Lib.hid (HB.out.trans (hB.mono HB.out.size))
      clear hB
      clear x0 x1 x2 x3 x4
      go_wp2_with fail
      refine (HS1.out _ _ _ _ _ (edits_of_own HE1.out).1 HE2.out).mono ?_
      rintro e w6 ⟨rfl, hB⟩
      have HI1 := Lib.hid (HI1.out.below hB (Nat.le_refl _))
      have HI2 := Lib.hid (HI2.out.below hB (Nat.le_refl _))
      have HP := Lib.hid (HP.out.below hB (Nat.le_refl _))
      have HT := Lib.hid (HT.out.below hB (Nat.le_refl _))
      have HX := Lib.hid (hp_below HX.out hB (hp_lt HX.out))
      have HB := Lib.hid (HB.out.trans (hB.mono HB.out.size))
      clear hB
      go_wp2_with fail
      refine (HS2.out _ _ _ _ _ HI1.out HI2.out).mono ?_
      rintro e w7 ⟨rfl, hB⟩
      have HI1 := Lib.hid (HI1.out.below hB (Nat.le_refl _))
      have HP := Lib.hid (HP.out.below hB (Nat.le_refl _))
      have HT := Lib.hid (HT.out.below hB (Nat.le_refl _))
      have HX := Lib.hid (hp_below HX.out hB (hp_lt HX.out))
      have HB := Lib.hid (HB.out.trans (hB.mono HB.out.size))
      clear hB
      go_wp2_with fail
      refine (HK.out _).mono ?_
      rintro e w9 ⟨rfl, hB⟩
      have HB := Lib.hid (HB.out.trans (hB.mono HB.out.size))
      clear hB
      go_wp2_with fail
      go_ret
      exact ⟨rfl, HB.out⟩

end Go.Proofs.YtjciojoeifekeaaGreat
