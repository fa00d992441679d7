/- Several texts in one. -/
import Derived.Test.YtplmpennafcbfaaGreatSgB
import Derived.Test.YtplmpennafcbfaaGreatFxR
import Derived.Test.YtplmpennafcbfaaGreatNear
import Derived.Deep.RegionHeld
import Derived.Test.YtplmpennafcbfaaGreatRtm
/- mutants, Mutants, kills, Kills of seek: contracts. -/
set_option linter.unusedVariables false
set_option linter.unusedSimpArgs false
namespace Go.Proofs.YtplmpennafcbfaaGreat
open Go.RowKit Go.Shelf Tinker
attribute [local go_sem] Oper.semAt_some

/-- Mutants; which tests kill one. -/
def muR (ps : List L) : List E := if vp ps = 0 then edL ps 0 else []
theorem edL_len9 (ps : List L) (n : Int) (hv : vp ps = 0) : (edL ps n).length ≤ 8000 := by
  have := edK_len ps n ps.length
  have := (vp_ok hv).1
  unfold edL
  omega
theorem muR_len (ps : List L) : (muR ps).length ≤ 8000 := by
  unfold muR
  split
  · rename_i h; exact edL_len9 ps 0 h
  · simp
def klC (ps : List L) (ts : List T) (m : E) : Int := if feL [feL [vp ps, vts ts], plC ps m.at_] = 0 then (if (isLn m.ln && nearB (lnD ps m.at_.toNat) m.ln) = true then 0 else 1) else feL [feL [vp ps, vts ts], plC ps m.at_]
def klR (ps : List L) (ts : List T) (m : E) : List Int := if klC ps ts m = 0 then trL true ps (doL ps [m]) ts else []
theorem klC_at {ps : List L} {ts : List T} {m : E} (h : feL [feL [vp ps, vts ts], plC ps m.at_] = 0) : vp ps = 0 ∧ vts ts = 0 ∧ ∃ (i : Nat) (x : L), m = ⟨(i : Int), x⟩ ∧ i < ps.length := by
  obtain ⟨h1, h2⟩ := fe2_ok h
  obtain ⟨h3, h4⟩ := fe2_ok h1
  obtain ⟨h5, h6⟩ := plc_ok h2
  refine ⟨h3, h4, m.at_.toNat, m.ln, ?_, by omega⟩
  have : ((m.at_.toNat : Nat) : Int) = m.at_ := by omega
  rw [this]
theorem tr_one {ps : List L} {ts : List T} {m : E} (h : vpx ps [m] 0 = 0) (ht : vts ts = 0) : trR true ps [m] ts = trL true ps (doL ps [m]) ts := by
  unfold trR
  rw [ht, if_pos h]

set_option maxRecDepth 100000 in
set_option maxHeartbeats 1000000 in
theorem smutants_any (a : Option Addr) (ca : Nat) (ps : List L) (w : World) (hp : LinesAt w a ps) (hv : vp ps = 0) :
    Calls Tryz.prog 38 #[.slice a ps.length ca] w (GivesEdits (edL ps 0) w) := by
  have H1 := Lib.hid (fun w h9 => sedits_any a ca ps 0 w h9 hv (by omega) (by omega))
  rw [show srcV 0 = .iface 92 (.agg #[]) from rfl] at H1
  have HP := Lib.hid hp
  generalize edL ps 0 = XS at *
  clear hp hv
  go_enter Tryz.func38, Tryz.ntmps38
  go_wp2_with fail
  refine (H1.out _ HP.out).mono ?_
  rintro e w1 ⟨a1, k1, rfl, hq, hB⟩
  have HO := Lib.hid hq
  have HB := Lib.hid hB
  clear hq hB
  go_wp2_with fail
  go_ret
  exact ⟨_, _, rfl, HO.out, HB.out⟩

theorem edit_size {w W0 : World} {x : E} (hW0 : W0 = w.alloc (.cells (eV x) 58)) : EditsAt (W0.alloc (.cells (eV x) 58)) (some ⟨w.heap.size + 1, 0, none⟩) [x] := by
  have h := edit_at W0 58 x
  rwa [show W0.heap.size = w.heap.size + 1 by rw [hW0]; simp] at h

set_option maxRecDepth 100000 in
set_option maxHeartbeats 2000000 in
theorem skills_any (a h : Option Addr) (ca ch : Nat) (ps : List L) (ts : List T) (m : E) (w : World) (hp : LinesAt w a ps) (hts : TestsAt w h ts) (hx : vpx ps [m] 0 = 0) (ht : vts ts = 0) :
    Calls Tryz.prog 40 #[.slice a ps.length ca, .slice h ts.length ch, .agg (eV m)] w (GivesInts (trL true ps (doL ps [m]) ts) w) := by
  obtain ⟨t8, hT⟩ := vts_ok ht
  have hml : ∀ t ∈ ts, t.inn.length ≤ 1000 := fun t h => by have := (vs_ok (isT_ok (hT t h)).1).1; omega
  have h8 := (vp_ok (vpx_ok hx).1).1
  have H1 := Lib.hid (fun g w h1 h2 h3 => pBreaks_any a g h ca 1 ch ps [m] ts w h1 h2 h3 (by simp) (by omega) hml (by omega))
  simp only [List.length_cons, List.length_nil, Nat.zero_add] at H1
  rw [tr_one hx ht, ht, hx] at H1
  generalize trL true ps (doL ps [m]) ts = R at *
  obtain ⟨W0, hW0⟩ : ∃ W, W = w.alloc (.cells (eV m) 58) := ⟨_, rfl⟩
  have hb : Below w.heap.size w W0 := by rw [hW0]; exact (Below.refl _ _).alloc (Nat.le_refl _) _
  have hX : W0.heap[w.heap.size]? = some (.cells (eV m) 58 (0, 0)) := by rw [hW0]; exact hp_new rfl
  have x0 := hp_cell hX (j := 0) (by rfl)
  have x1 := hp_cell hX (j := 1) (by rfl)
  have x2 := hp_cell hX (j := 2) (by rfl)
  have x3 := hp_cell hX (j := 3) (by rfl)
  have x4 := hp_cell hX (j := 4) (by rfl)
  have HX := Lib.hid (edit_size hW0)
  have hal := (Below.refl W0.heap.size W0).alloc (Nat.le_refl _) (.cells (eV m) 58)
  have HP := Lib.hid ((hp.below hb (Nat.le_refl _)).below hal (Nat.le_refl _))
  have HT := Lib.hid ((hts.below hb (Nat.le_refl _)).below hal (Nat.le_refl _))
  have HB := Lib.hid (hb.trans (hal.mono hb.size))
  clear hx ht hT hml h8 hb hX hal hp hts
  unfold eV at hW0 HX HP HT HB ⊢
  go_enter Tryz.func40, Tryz.ntmps40
  rw [hW0] at x0 x1 x2 x3 x4
  go_wp2_with fail
  rw [← hW0]
  clear hW0
  refine (H1.out _ _ HP.out HX.out HT.out).mono ?_
  rintro e w1 ⟨a1, k1, rfl, hq, hB⟩
  have HO := Lib.hid (own_mono hq HB.out.size)
  have HB := Lib.hid (HB.out.trans (hB.mono HB.out.size))
  clear hq hB x0 x1 x2 x3 x4
  go_wp2_with fail
  go_ret
  exact ⟨_, _, rfl, HO.out, HB.out⟩

end Go.Proofs.YtplmpennafcbfaaGreat

/- mutants, Mutants, kills of the document (package tinkerref05): contracts. -/
set_option linter.unusedVariables false
set_option linter.unusedSimpArgs false
namespace Go.Proofs.YtplmpennafcbfaaGreat
open Go.RowKit Go.Shelf Tinker

theorem cnd_tmpl (ps : List L) (i : Nat) : cndL ps i 0 = tmpl (lnD ps i) := by
  rw [cnd_filter]
  unfold tmpl
  refine List.filter_congr fun m _ => ?_
  unfold isKd
  rw [if_pos rfl]
  cases hn : nearB (lnD ps i) m
  · rfl
  · rw [eqL_false (near_ne hn)]
    rfl

set_option maxRecDepth 100000 in
set_option maxHeartbeats 4000000 in
theorem rmutants_any (a : Option Addr) (ca : Nat) (ps : List L) (w : World) (hp : LinesAt w a ps) (hv : vp ps = 0) :
    Calls Tryz.prog 42 #[.slice a ps.length ca] w (GivesEdits (edL ps 0) w) := by
  obtain ⟨i0, hI, hz0, hz1, hz2⟩ := info_parts info_edit
  obtain ⟨h8, hvl⟩ := vp_ok hv
  have HC := Lib.hid (fun (l : L) w (hl : isLn l = true) => rtemplates_any l w hl)
  have HVL := Lib.hid hvl
  have HP := Lib.hid hp
  have HS := Lib.hid (edK_succ ps 0)
  have HL := Lib.hid (edK_len ps 0)
  have HCL := Lib.hid (fun i => cnd_len9 ps i 0)
  have HCT := Lib.hid (fun i l (hl : ps[i]? = some l) => show cndL ps i 0 = tmpl l by rw [cnd_tmpl, lnD_at hl])
  have HZ := Lib.hid (show edK ps 0 0 = [] from rfl)
  unfold edL
  generalize edK ps 0 = ed at *
  clear hv hp hvl
  go_enter Tryz.func42, Tryz.ntmps42
  go_wp2_with fail
  go_loopw [3, 4] (fun s3 s4 wr => ∃ k : Nat, k ≤ ps.length ∧ s4 = .int .i64 (k : Int) ∧ wr.ownsRow w.heap.size 58 5 s3 (ed k).length (ec (ed k)) ∧ Below w.heap.size w wr) (fun _ s4 _ => ps.length - (intOf s4).toNat)
  case atStart => exact ⟨0, Nat.zero_le _, rfl, by rw [HZ.out]; exact World.ownsRow_nil _ _ _ _, Below.refl _ _⟩
  case round =>
    obtain ⟨k, hk, rfl, hO, hB⟩ := hrel
    have HO := Lib.hid hO
    have HB := Lib.hid hB
    clear hO hB
    by_cases hlt : k < ps.length
    · have hlt1 : decide ((k : Int) < (ps.length : Int)) = true := decide_eq_true (by omega)
      obtain ⟨b, off, l, rfl, hlb, hl, c0, c1, c2, c3⟩ := (HP.out.below HB.out (Nat.le_refl _)).at_ hlt
      have HC1 := Lib.hid (fun w => HC.out l w (HVL.out l (mem_of_get hl)))
      rw [← HCT.out k l hl] at HC1
      have HS1 := Lib.hid (HS.out k)
      have hl1 := HL.out k
      have hl2 := HCL.out k
      clear hl
      unfold lv at HC1
      generalize cndL ps k 0 = Z at *
      generalize ed k = LS at *
      obtain ⟨va, vc, rfl⟩ := own_slice HO.out
      go_wp2_with fail
      refine (HC1.out _).mono ?_
      rintro e w1 ⟨a1, k1, rfl, hq, hB⟩
      have HO := Lib.hid (own_below HO.out hB (Nat.le_refl _))
      have HB1 := Lib.hid (HB.out.trans (hB.mono HB.out.size))
      have HTO := Lib.hid hq
      clear hq hB c0 c1 c2 c3
      go_wp2_with fail
      go_loopw [3, 6] (fun s3 s6 wx => ∃ j : Nat, j ≤ Z.length ∧ s6 = .int .i64 (j : Int) ∧ wx.ownsRow w.heap.size 58 5 s3 (LS ++ (Z.take j).map fun m => (⟨(k : Int), m⟩ : E)).length (ec (LS ++ (Z.take j).map fun m => (⟨(k : Int), m⟩ : E))) ∧ wx.ownsRow w.heap.size 51 4 (.slice a1 Z.length k1) Z.length (lc Z) ∧ Below w.heap.size w wx) (fun _ s6 _ => Z.length - (intOf s6).toNat)
      case atStart => exact ⟨0, Nat.zero_le _, rfl, by rw [List.take_zero, List.map_nil, List.append_nil]; exact HO.out, own_mono HTO.out HB.out.size, HB1.out⟩
      case round =>
        clear HO HTO HB1
        obtain ⟨j, hj, rfl, hO, hT, hB⟩ := hrel
        have HO := Lib.hid hO
        have HT := Lib.hid hT
        have HB := Lib.hid hB
        clear hO hT hB
        by_cases hlj : j < Z.length
        · have hlj1 : decide ((j : Int) < (Z.length : Int)) = true := decide_eq_true (by omega)
          obtain ⟨tb, toff, x, rfl, htl, hx, d0, d1, d2, d3⟩ := (lines_of_own HT.out).1.at_ hlj
          have HN := Lib.hid (show LS ++ (Z.take (j + 1)).map (fun m => (⟨(k : Int), m⟩ : E)) = (LS ++ (Z.take j).map fun m => (⟨(k : Int), m⟩ : E)) ++ [⟨(k : Int), x⟩] by rw [map_take_E hx, List.append_assoc])
          have hll : (LS ++ (Z.take j).map fun m => (⟨(k : Int), m⟩ : E)).length ≤ 100000 := by rw [List.length_append, List.length_map, List.length_take]; omega
          generalize (LS ++ (Z.take j).map fun m => (⟨(k : Int), m⟩ : E)) = LS2 at *
          clear hx
          obtain ⟨va, vc, rfl⟩ := own_slice HO.out
          have hal : Below wr.heap.size wr (wr.alloc (.cells (eV ⟨(k : Int), x⟩) 58)) := (Below.refl _ _).alloc (Nat.le_refl _) _
          have HO2 := Lib.hid (own_below HO.out hal (Nat.le_refl _))
          have HT2 := Lib.hid (own_below HT.out hal (Nat.le_refl _))
          have HB2 := Lib.hid (HB.out.trans (hal.mono HB.out.size))
          have HCN := Lib.hid (cells_newE wr ⟨(k : Int), x⟩)
          unfold eV at HO2 HT2 HB2 HCN
          clear hal HO HT
          go_wp2_with (at_builtin; (refine wpList_append_own _ rfl (.tmp 24) (.tmp 31) 27 rfl w.heap.size 58 i0 (.agg #[.int .i64 0, .int .i64 0, .int .i64 0, .int .i64 0, .int .i64 0]) 5 40 Tryz.underlying27 hI hz0 hz1 hz2 rfl (by decide) (.slice va LS2.length vc) LS2.length (ec LS2) rfl HO2.out ⟨wr.heap.size, 0, none⟩ 1 1 (ec [⟨(k : Int), x⟩]) rfl ?c1 ?c2 ?c3 ?c4 ?c5 ?c6 ?_))
          case c1 => rfl
          case c2 => first | exact HCN.out | exact fun j u h => h
          case c3 => exact ec_one _
          case c4 => simp [maxLen]; omega
          case c5 => omega
          case c6 => first | exact HB2.out.size | (have h9 := HB2.out.size; simp at h9; omega)
          intro v' w5 hown hgrow _
          have HB5 := Lib.hid (HB2.out.grown hgrow HB2.out.size (by rintro k hk; exact (HO2.out.lt k hk).1))
          have HO5 := Lib.hid (edits_snoc hown)
          have HT5 := Lib.hid (HT2.out.kept hgrow (own_ne5 HO2.out HT2.out (by decide)))
          clear hown hgrow
          go_wp2_with fail
          go_roundw
          case rel => exact ⟨j + 1, by omega, by go_num, by rw [HN.out, List.length_append]; exact HO5.out, HT5.out, HB5.out⟩
          case measure => simp [intOf]; omega
        · obtain rfl : j = Z.length := by omega
          have hlj1 : decide ((Z.length : Int) < (Z.length : Int)) = false := decide_eq_false (by omega)
          have hO := HO.out
          rw [List.take_length, ← HS1.out] at hO
          have HO := Lib.hid hO
          clear hO
          go_wp2_with fail
          go_roundw
          case rel => exact ⟨k + 1, by omega, by go_num, HO.out, HB.out⟩
          case measure => simp [intOf]; omega
    · obtain rfl : k = ps.length := by omega
      have hlt1 : decide ((ps.length : Int) < (ps.length : Int)) = false := decide_eq_false (by omega)
      go_wp2_with fail
      go_ret
      exact givesEdits_of rfl HO.out HB.out

set_option maxRecDepth 100000 in
set_option maxHeartbeats 4000000 in
theorem rkills_any (a h : Option Addr) (ca ch : Nat) (ps : List L) (ts : List T) (i : Nat) (x : L) (ww : World) (hp : LinesAt ww a ps) (hts : TestsAt ww h ts) (hv : vp ps = 0) (ht : vts ts = 0) (hi : i < ps.length) (hx : isLn x = true) :
    Calls Tryz.prog 43 #[.slice a ps.length ca, .slice h ts.length ch, .agg #[.int .i64 (i : Int), .int .i64 x.op, .int .i64 x.to, .int .i64 x.a, .int .i64 x.b]] ww (GivesInts (trL true ps (doL ps [⟨(i : Int), x⟩]) ts) ww) := by
  obtain ⟨i0, hI, hz0, hz1, hz2⟩ := info_parts info_line
  obtain ⟨j0, hJ, hy0, hy1, hy2⟩ := info_parts info_intP
  obtain ⟨t8, hT⟩ := vts_ok ht
  obtain ⟨h8, _⟩ := vp_ok hv
  have HTT := Lib.hid hT
  have hvq : vp (doL ps [⟨(i : Int), x⟩]) = 0 := doL_vp hv (by
    intro e he
    rw [List.mem_singleton] at he
    subst he
    exact hx)
  have HD := Lib.hid (show doL ps [⟨(i : Int), x⟩] = ps.set i x from rfl)
  rw [HD.out] at hvq ⊢
  have hql : (ps.set i x).length = ps.length := List.length_set
  have HPC := Lib.hid (fun b cb t w h1 h2 h3 => rPasses4_any a b ca cb ps t w h1 h2 hv h3)
  have HQC := Lib.hid (fun a' ca' b cb t w h1 h2 h3 => rPasses4_any a' b ca' cb (ps.set i x) t w h1 h2 hvq h3)
  rw [hql] at HQC
  have HE := Lib.hid (show trL true ps (ps.set i x) ts = plcTo (ts.map (trF true ps (ps.set i x))) ts.length by unfold trL plc; rw [List.length_map]; rfl)
  have HY := Lib.hid (fun k t (h : ts[k]? = some t) (h2 : trF true ps (ps.set i x) t = true) => plcTo_yes (l := ts.map (trF true ps (ps.set i x))) (k := k) (by rw [List.getElem?_map, h]; show some (trF true ps (ps.set i x) t) = some true; rw [h2]))
  have HN := Lib.hid (fun k t (h : ts[k]? = some t) (h2 : trF true ps (ps.set i x) t = false) => plcTo_no (l := ts.map (trF true ps (ps.set i x))) (k := k) (by rw [List.getElem?_map, h]; show some (trF true ps (ps.set i x) t) = some false; rw [h2]))
  have HFT := Lib.hid (show ∀ t, trF true ps (ps.set i x) t = (pas ps t && !pas (ps.set i x) t) from fun t => by unfold trF; cases pas ps t <;> cases pas (ps.set i x) t <;> rfl)
  have HZ := Lib.hid (show plcTo (ts.map (trF true ps (ps.set i x))) 0 = [] from rfl)
  have HLN := Lib.hid (fun k => plcTo_length (ts.map (trF true ps (ps.set i x))) k)
  rw [HE.out]
  obtain ⟨qs, hqs⟩ : ∃ qs, qs = ps.set i x := ⟨_, rfl⟩
  rw [← hqs] at HQC HY HN HFT HZ HLN hql ⊢
  have HQS := Lib.hid hqs
  clear HD hvq hqs
  generalize (ts.map (trF true ps qs)) = bs at *
  generalize trF true ps qs = fF at *
  obtain ⟨W0, hW0⟩ : ∃ W, W = ww.alloc (.cells #[.int .i64 (i : Int), .int .i64 x.op, .int .i64 x.to, .int .i64 x.a, .int .i64 x.b] 58) := ⟨_, rfl⟩
  have hb : Below ww.heap.size ww W0 := by rw [hW0]; exact (Below.refl _ _).alloc (Nat.le_refl _) _
  have HX0 := Lib.hid (show W0.heap[ww.heap.size]? = some (.cells #[.int .i64 (i : Int), .int .i64 x.op, .int .i64 x.to, .int .i64 x.a, .int .i64 x.b] 58 (0, 0)) by rw [hW0]; exact hp_new rfl)
  have HP := Lib.hid (hp.below hb (Nat.le_refl _))
  have HTS := Lib.hid (hts.below hb (Nat.le_refl _))
  have HB0 := Lib.hid hb
  obtain ⟨ad, had⟩ : ∃ ad, a = some ad := by
    obtain ⟨b, off, l, e, _⟩ := hp.at_ hi
    exact ⟨_, e⟩
  subst had
  have HC := Lib.hid (HP.out.cells)
  have hown := World.ownsRow_lit (base := W0.heap.size) (e := 51) (size := 4) W0 #[] 0 (Nat.le_refl _) (by simp [maxLen]) (by simp)
  have HOne := Lib.hid (one_line x)
  clear hT hv ht hx hb hp hts HE
  go_enter Tryz.func43, Tryz.ntmps43
  go_upto_region 1 with fail
  rw [← hW0]
  clear hW0
  go_wp2_with (at_builtin; (refine wpList_append_own _ rfl (.tmp 10) (.tmp 11) 22 rfl W0.heap.size 51 i0 (.agg #[.int .i64 0, .int .i64 0, .int .i64 0, .int .i64 0]) 4 32 Tryz.underlying22 hI hz0 hz1 hz2 rfl (by decide) _ 0 [] rfl hown ad ps.length ca (lc ps) rfl ?c1 ?c2 ?c3 ?c4 ?c5 ?c6 ?_))
  case c1 => exact lc_length ps
  case c2 => intro j u hu; exact cell_alloc_keep (HC.out j u hu)
  case c3 => exact lc_one ps
  case c4 => simp [maxLen]; omega
  case c5 => omega
  intro v' w1 hown1 hgrow _
  have hB1 : Below W0.heap.size W0 w1 := ((Below.refl _ _).alloc (Nat.le_refl _) _).grown hgrow (by simp) (by rintro k hk; simp [Value.ownBlock] at hk; omega)
  have hO1 : w1.ownsRow W0.heap.size 51 4 v' ps.length (lc ps) := by simpa using hown1
  obtain ⟨va, vc, rfl⟩ := own_slice hO1
  obtain ⟨g, rfl⟩ := own_form hO1 (by omega)
  have HX1 := Lib.hid (hp_below HX0.out hB1 (hp_lt HX0.out))
  have HTh := Lib.hid (own_there hO1 hi)
  have hPL := own_setLine hO1 hi x
  rw [← HQS.out] at hPL
  have HPL := Lib.hid hPL
  clear hPL
  have hgb := own_base' hO1
  have HB1 := Lib.hid (hB1.trans ((Off.setCells g w1 (i * 4) [.int .i64 x.op, .int .i64 x.to, .int .i64 x.a, .int .i64 x.b]).below hgb hB1.size))
  have x0 := hp_cell HX1.out (j := 0) (by rfl)
  have x1 := hp_cell HX1.out (j := 1) (by rfl)
  have x2 := hp_cell HX1.out (j := 2) (by rfl)
  have x3 := hp_cell HX1.out (j := 3) (by rfl)
  have x4 := hp_cell HX1.out (j := 4) (by rfl)
  have i1 : (0 : Int) ≤ (i : Int) := by omega
  have i2 : (i : Int) < (ps.length : Int) := by omega
  clear hown hown1 hgrow hB1 hO1
  go_wp2_with (refine wpList_store_mid rfl 51 (.tmp 18) (.tmp 17) rfl g (i * 4) #[.int .i64 x.op, .int .i64 x.to, .int .i64 x.a, .int .i64 x.b] rfl rfl HTh.out info_ln HOne.out ?_)
  have HQ := Lib.hid (lines_of_own HPL.out).1
  have HB := Lib.hid (HB0.out.trans (HB1.out.mono HB0.out.size))
  have HP := Lib.hid (HP.out.below HB1.out (Nat.le_refl _))
  have HTS := Lib.hid (HTS.out.below HB1.out (Nat.le_refl _))
  rw [← setCells4] at HQ
  clear HPL HX1 HTh x0 x1 x2 x3 x4 HC
  go_wp2_with fail
  generalize w1.setCells g (i * 4) [.int .i64 x.op, .int .i64 x.to, .int .i64 x.a, .int .i64 x.b] = W1 at *
  go_loopw [8, 9] (fun s8 s9 wr => ∃ k : Nat, k ≤ ts.length ∧ s9 = .int .i64 k ∧ wr.ownsRow W1.heap.size 3 1 s8 (plcTo bs k).length ((plcTo bs k).map (Value.int .i64)) ∧ Below W1.heap.size W1 wr) (fun _ s9 _ => ts.length - (intOf s9).toNat)
  case atStart => exact ⟨0, Nat.zero_le _, rfl, by rw [HZ.out]; exact World.ownsRow_nil _ _ _ _, Below.refl _ _⟩
  case round =>
    obtain ⟨k, hk, rfl, hO, hBr⟩ := hrel
    have HO := Lib.hid hO
    have HBR := Lib.hid hBr
    clear hO hBr
    by_cases hlt : k < ts.length
    · have hlt1 : decide ((k : Int) < (ts.length : Int)) = true := decide_eq_true (by omega)
      obtain ⟨b', off, t, a', c', rfl, hlb2, hz, x0, x1, x2, hi2⟩ := (HTS.out.below HBR.out (Nat.le_refl _)).at_ hlt
      have HI := Lib.hid hi2
      have HTQ := Lib.hid (HTT.out t (mem_of_get hz))
      have HY2 := Lib.hid (HY.out k t hz)
      have HN2 := Lib.hid (HN.out k t hz)
      have hln := HLN.out k
      have HF := Lib.hid (HFT.out t)
      clear hz hi2 HY HN HFT HLN HZ HTT
      generalize plcTo bs k = LS at HY2 HN2 hln HO
      have HC1 := Lib.hid (fun w h1 h2 => HPC.out a' c' t w h1 h2 HTQ.out)
      have HC2 := Lib.hid (fun w h1 h2 => HQC.out (some ⟨g, 0, none⟩) vc a' c' t w h1 h2 HTQ.out)
      generalize pas ps t = r1 at HC1 HF
      generalize pas qs t = r2 at HC2 HF
      have HPr := Lib.hid (HP.out.below HBR.out (Nat.le_refl _))
      have HQr := Lib.hid (HQ.out.below HBR.out (Nat.le_refl _))
      clear HPC HQC
      cases r1
      · have HS := Lib.hid (HN2.out HF.out)
        go_wp2_with fail
        refine (HC1.out _ HPr.out HI.out).mono ?_
        rintro e w2 ⟨rfl, hB2⟩
        have HO := Lib.hid (own_below HO.out hB2 (Nat.le_refl _))
        have HI := Lib.hid (HI.out.below hB2 (Nat.le_refl _))
        have HQr := Lib.hid (HQr.out.below hB2 (Nat.le_refl _))
        have HB2 := Lib.hid (HBR.out.trans (hB2.mono HBR.out.size))
        replace x0 := (hB2.cell (p := ⟨b', _, none⟩) hlb2).trans x0
        replace x1 := (hB2.cell (p := ⟨b', _, none⟩) hlb2).trans x1
        replace x2 := (hB2.cell (p := ⟨b', _, none⟩) hlb2).trans x2
        clear hB2
        clear x0 x1 x2
        go_wp2_with fail
        go_roundw
        case rel => exact ⟨k + 1, by omega, by go_num, by rw [HS.out]; exact HO.out, HB2.out⟩
        case measure => simp [intOf]; omega
      · cases r2
        · have HS := Lib.hid (HY2.out HF.out)
          go_wp2_with fail
          refine (HC1.out _ HPr.out HI.out).mono ?_
          rintro e w2 ⟨rfl, hB2⟩
          have HO := Lib.hid (own_below HO.out hB2 (Nat.le_refl _))
          have HI := Lib.hid (HI.out.below hB2 (Nat.le_refl _))
          have HQr := Lib.hid (HQr.out.below hB2 (Nat.le_refl _))
          have HB2 := Lib.hid (HBR.out.trans (hB2.mono HBR.out.size))
          replace x0 := (hB2.cell (p := ⟨b', _, none⟩) hlb2).trans x0
          replace x1 := (hB2.cell (p := ⟨b', _, none⟩) hlb2).trans x1
          replace x2 := (hB2.cell (p := ⟨b', _, none⟩) hlb2).trans x2
          clear hB2
          go_wp2_with fail
          refine (HC2.out _ HQr.out HI.out).mono ?_
          rintro e w3 ⟨rfl, hB3⟩
          have HO := Lib.hid (own_below HO.out hB3 (Nat.le_refl _))
          have HB3 := Lib.hid (HB2.out.trans (hB3.mono HB2.out.size))
          clear hB3 x0 x1 x2
          obtain ⟨va, vc2, rfl⟩ := own_slice HO.out
          have hal2 : Below w3.heap.size w3 (w3.alloc (.cells #[.int .i64 (k : Int)] 3)) := (Below.refl _ _).alloc (Nat.le_refl _) _
          have HO2 := Lib.hid (own_below HO.out hal2 (Nat.le_refl _))
          have HB4 := Lib.hid (HB3.out.trans (hal2.mono HB3.out.size))
          have HC3 := Lib.hid (cells_newI w3 (k : Int))
          clear hal2
          go_wp2_with (at_builtin; (refine wpList_append_own _ rfl (.tmp 40) (.tmp 42) 43 rfl W1.heap.size 3 j0 (.int .i64 0) 1 8 Tryz.underlying43 hJ hy0 hy1 hy2 rfl (by decide) _ _ _ rfl HO2.out ⟨w3.heap.size, 0, none⟩ 1 1 [.int .i64 (k : Int)] rfl rfl ?c1 ?c2 ?c3 ?c4 ?c5 ?_))
          case c1 => first | exact HC3.out | (intro j u hu; simpa using hu)
          case c2 => simp [Value.oneCell']
          case c3 => simp [maxLen]; omega
          case c4 => omega
          case c5 => first | exact HB4.out.size | (have h9 := HB4.out.size; simp at h9; omega)
          intro v' w5 hown hgrow _
          have HB5 := Lib.hid (HB4.out.grown hgrow HB4.out.size (by rintro k hk; exact (HO2.out.lt k hk).1))
          have HO5 := Lib.hid (ints_snoc hown)
          clear hown hgrow
          go_wp2_with fail
          go_roundw
          case rel => exact ⟨k + 1, by omega, by go_num, by rw [HS.out, List.length_append]; exact HO5.out, HB5.out⟩
          case measure => simp [intOf]; omega
        · have HS := Lib.hid (HN2.out HF.out)
          go_wp2_with fail
          refine (HC1.out _ HPr.out HI.out).mono ?_
          rintro e w2 ⟨rfl, hB2⟩
          have HO := Lib.hid (own_below HO.out hB2 (Nat.le_refl _))
          have HI := Lib.hid (HI.out.below hB2 (Nat.le_refl _))
          have HQr := Lib.hid (HQr.out.below hB2 (Nat.le_refl _))
          have HB2 := Lib.hid (HBR.out.trans (hB2.mono HBR.out.size))
          replace x0 := (hB2.cell (p := ⟨b', _, none⟩) hlb2).trans x0
          replace x1 := (hB2.cell (p := ⟨b', _, none⟩) hlb2).trans x1
          replace x2 := (hB2.cell (p := ⟨b', _, none⟩) hlb2).trans x2
          clear hB2
          go_wp2_with fail
          refine (HC2.out _ HQr.out HI.out).mono ?_
          rintro e w3 ⟨rfl, hB3⟩
          have HO := Lib.hid (own_below HO.out hB3 (Nat.le_refl _))
          have HB3 := Lib.hid (HB2.out.trans (hB3.mono HB2.out.size))
          clear hB3 x0 x1 x2
          go_wp2_with fail
          go_roundw
          case rel => exact ⟨k + 1, by omega, by go_num, by rw [HS.out]; exact HO.out, HB3.out⟩
          case measure => simp [intOf]; omega
    · obtain rfl : k = ts.length := by omega
      have hlt1 : decide ((ts.length : Int) < (ts.length : Int)) = false := decide_eq_false (by omega)
      obtain ⟨va, vc2, rfl⟩ := own_slice HO.out
      have HO := Lib.hid (own_mono HO.out HB.out.size)
      have HBE := Lib.hid (HB.out.trans (HBR.out.mono HB.out.size))
      go_wp2_with fail
      go_ret
      exact ⟨_, _, rfl, HO.out, HBE.out⟩

end Go.Proofs.YtplmpennafcbfaaGreat
