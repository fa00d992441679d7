/- Several texts in one. -/
import Derived.Test.YtfclfmloceddfaaGreatFcA
import Derived.Test.YtfclfmloceddfaaGreatRtm
import Derived.Test.YtfclfmloceddfaaGreatFxR
import Derived.Test.YtfclfmloceddfaaGreatCnF
import Derived.Test.YtfclfmloceddfaaGreatSgC
import Derived.Deep.RegionHeld
/- tested, sought, fixes, Fixes of the document (package tinkerref05): contracts. -/
set_option linter.unusedVariables false
set_option linter.unusedSimpArgs false
namespace Go.Proofs.YtfclfmloceddfaaGreat
open Go.RowKit Go.Shelf Tinker

theorem rcand_any (a : Option Addr) (ca : Nat) (ps : List L) (i : Nat) (n : Int) (w : World) (hp : LinesAt w a ps) (hv : vp ps = 0) (hi : i < ps.length) (h0 : 0 ≤ n) (h2 : n ≤ 2) :
    Calls Tryz.prog 49 #[.slice a ps.length ca, .int .i64 (i : Int), .int .i64 n] w (GivesLines (cndL ps i n) w) := by
  have hn : n = 0 ∨ n = 1 ∨ n = 2 := by omega
  rcases hn with rfl | rfl | rfl
  · exact rcand0_any a ca ps i w hp hv hi
  · exact rcand1_any a ca ps i w hp hv hi
  · exact rcand2_any a ca ps i w hp hv hi

set_option maxHeartbeats 1000000 in
theorem rtested5_any (a h : Option Addr) (ca ch : Nat) (ps : List L) (ts : List T) (w : World) (hp : LinesAt w a ps) (hts : TestsAt w h ts) :
    Calls Tryz.prog 37 #[.slice a ps.length ca, .slice h ts.length ch] w fun e w' => e = .returned (.int .i64 (feL [vp ps, vts ts])) ∧ Below w.heap.size w w' := by
  have H1 := Lib.hid (fun w h9 => rValidate_any a ca ps w h9)
  have H2 := Lib.hid (fun w h9 => rValidateTests_any h ch ts w h9)
  have HP := Lib.hid hp
  have HT := Lib.hid hts
  rw [feL_two]
  unfold fe
  generalize vp ps = d1 at *
  generalize vts ts = d2 at *
  clear hp hts
  by_cases hz : d1 = 0
  · subst hz
    rw [if_pos rfl]
    go_enter Tryz.func37, Tryz.ntmps37
    go_wp2_with fail
    refine (H1.out _ HP.out).mono ?_
    rintro e w1 ⟨rfl, hB⟩
    have HB1 := Lib.hid hB
    clear hB
    go_wp2_with fail
    refine (H2.out _ (HT.out.below HB1.out (Nat.le_refl _))).mono ?_
    rintro e w2 ⟨rfl, hB⟩
    have HB2 := Lib.hid (HB1.out.trans (hB.mono HB1.out.size))
    clear hB
    go_wp2_with fail
    go_ret
    exact ⟨rfl, HB2.out⟩
  · have hz1 : (d1 != 0) = true := by simpa using hz
    rw [if_neg hz]
    clear hz
    go_enter Tryz.func37, Tryz.ntmps37
    go_wp2_with fail
    refine (H1.out _ HP.out).mono ?_
    rintro e w1 ⟨rfl, hB⟩
    have HB1 := Lib.hid hB
    clear hB
    go_wp2_with fail
    go_ret
    exact ⟨rfl, HB1.out⟩

theorem skC_1 {ps : List L} {ts : List T} {n : Int} (h : feL [vp ps, vts ts] ≠ 0) : skC ps ts n = feL [vp ps, vts ts] := by
  unfold skC
  rw [feL]
  exact if_neg h
theorem skC_2 {ps : List L} {ts : List T} {n : Int} (h : feL [vp ps, vts ts] = 0) (hn : n < 0 ∨ 2 < n) : skC ps ts n = 1 := by
  unfold skC kdC
  rw [feL, if_pos h, if_neg (by omega), feL]
  rfl
theorem skC_3 {ps : List L} {ts : List T} {n : Int} (h : feL [vp ps, vts ts] = 0) (h0 : 0 ≤ n) (h2 : n ≤ 2) : skC ps ts n = if (ts.all fun t => pas ps t) = true then 8 else 0 := by
  obtain ⟨h3, h4⟩ := fe2_ok h
  unfold skC kdC
  rw [feL, if_pos h, if_pos ⟨h0, h2⟩, feL, if_pos rfl, nd_all h3 h4]
  generalize (if (ts.all fun t => pas ps t) = true then (8 : Int) else 0) = q
  simp only [feL]
  by_cases hq : q = 0
  · rw [if_pos hq, hq]
  · rw [if_neg hq]
set_option maxRecDepth 100000 in
set_option maxHeartbeats 1000000 in
theorem rsought_any (a h : Option Addr) (ca ch : Nat) (ps : List L) (ts : List T) (n : Int) (w : World) (hp : LinesAt w a ps) (hts : TestsAt w h ts) :
    Calls Tryz.prog 20 #[.slice a ps.length ca, .slice h ts.length ch, .int .i64 n] w fun e w' => e = .returned (.int .i64 (skC ps ts n)) ∧ Below w.heap.size w w' := by
  have H1 := Lib.hid (fun w h1 h2 => rtested5_any a h ca ch ps ts w h1 h2)
  have HP := Lib.hid hp
  have HT := Lib.hid hts
  clear hp hts
  by_cases hz : feL [vp ps, vts ts] = 0
  · obtain ⟨h3, h4⟩ := fe2_ok hz
    rw [hz] at H1
    by_cases hn : n < 0
    · have d1 : decide (n < 0) = true := by simpa using hn
      rw [skC_2 hz (.inl hn)]
      clear hz h3 h4
      go_enter Tryz.func20, Tryz.ntmps20
      go_wp2_with fail
      refine (H1.out _ HP.out HT.out).mono ?_
      rintro e w1 ⟨rfl, hB⟩
      have HB1 := Lib.hid hB
      clear hB
      go_wp2_with fail
      go_ret
      exact ⟨rfl, HB1.out⟩
    · have d1 : decide (n < 0) = false := by simpa using hn
      by_cases hn2 : 2 < n
      · have d2 : decide (2 < n) = true := by simpa using hn2
        rw [skC_2 hz (.inr hn2)]
        clear hz h3 h4
        go_enter Tryz.func20, Tryz.ntmps20
        go_wp2_with fail
        refine (H1.out _ HP.out HT.out).mono ?_
        rintro e w1 ⟨rfl, hB⟩
        have HB1 := Lib.hid hB
        clear hB
        go_wp2_with fail
        go_ret
        exact ⟨rfl, HB1.out⟩
      · have d2 : decide (2 < n) = false := by simpa using hn2
        rw [skC_3 hz (by omega) (by omega)]
        have H2 := Lib.hid (fun w h1 h2 => rPassesAll_any a h ca ch ps ts w h1 h2 h3 h4)
        generalize (ts.all fun t => pas ps t) = r at *
        clear hz h3 h4
        cases r
        · rw [if_neg (by decide)]
          go_enter Tryz.func20, Tryz.ntmps20
          go_wp2_with fail
          refine (H1.out _ HP.out HT.out).mono ?_
          rintro e w1 ⟨rfl, hB⟩
          have HB1 := Lib.hid hB
          clear hB
          go_wp2_with fail
          refine (H2.out _ (HP.out.below HB1.out (Nat.le_refl _)) (HT.out.below HB1.out (Nat.le_refl _))).mono ?_
          rintro e w2 ⟨rfl, hB⟩
          have HB2 := Lib.hid (HB1.out.trans (hB.mono HB1.out.size))
          clear hB
          go_wp2_with fail
          go_ret
          exact ⟨rfl, HB2.out⟩
        · rw [if_pos rfl]
          go_enter Tryz.func20, Tryz.ntmps20
          go_wp2_with fail
          refine (H1.out _ HP.out HT.out).mono ?_
          rintro e w1 ⟨rfl, hB⟩
          have HB1 := Lib.hid hB
          clear hB
          go_wp2_with fail
          refine (H2.out _ (HP.out.below HB1.out (Nat.le_refl _)) (HT.out.below HB1.out (Nat.le_refl _))).mono ?_
          rintro e w2 ⟨rfl, hB⟩
          have HB2 := Lib.hid (HB1.out.trans (hB.mono HB1.out.size))
          clear hB
          go_wp2_with fail
          go_ret
          exact ⟨rfl, HB2.out⟩
  · rw [skC_1 hz]
    generalize feL [vp ps, vts ts] = d at *
    have hz1 : (d != 0) = true := by simpa using hz
    clear hz
    go_enter Tryz.func20, Tryz.ntmps20
    go_wp2_with fail
    refine (H1.out _ HP.out HT.out).mono ?_
    rintro e w1 ⟨rfl, hB⟩
    have HB1 := Lib.hid hB
    clear hB
    go_wp2_with fail
    go_ret
    exact ⟨rfl, HB1.out⟩

theorem fxC_1 {ps : List L} {ts : List T} {i n : Int} (h : feL [vp ps, vts ts] ≠ 0) : fxC ps ts i n = feL [vp ps, vts ts] := by
  unfold fxC
  rw [feL]
  exact if_neg h
theorem fxC_2 {ps : List L} {ts : List T} {i n : Int} (h : feL [vp ps, vts ts] = 0) (hi : i < 0 ∨ (ps.length : Int) ≤ i) : fxC ps ts i n = 4 := by
  have h1 : plC ps i = 4 := by
    unfold plC
    rw [if_neg]
    intro hb
    have := btw_true.1 hb
    omega
  unfold fxC
  rw [feL, if_pos h, h1, feL]
  rfl
theorem fxC_3 {ps : List L} {ts : List T} {i n : Int} (h : feL [vp ps, vts ts] = 0) (h0 : 0 ≤ i) (h2 : i < (ps.length : Int)) : fxC ps ts i n = skC ps ts n := by
  have h1 : plC ps i = 0 := by
    unfold plC
    rw [if_pos (btw_true.2 ⟨h0, by omega⟩)]
  unfold fxC skC
  rw [feL, if_pos h, h1, feL, if_pos rfl]
  conv => rhs; rw [feL]
  rw [if_pos h]

end Go.Proofs.YtfclfmloceddfaaGreat

/- single, Single of the document (package tinkerref05): contracts. -/
set_option linter.unusedVariables false
set_option linter.unusedSimpArgs false
namespace Go.Proofs.YtfclfmloceddfaaGreat
open Go.RowKit Go.Shelf Tinker

theorem own_off5 {W W' : World} {base n k c g : Nat} {e : TypeId} {a : Option Addr} {xs : List Value} (h : W.ownsRow base e k (.slice a n c) n xs) (ho : Off g W W') (hg : g < base) : W'.ownsRow base e k (.slice a n c) n xs := by
  refine ⟨h.1, ?_⟩
  rcases h.2 with hn | ⟨g', cap, cur, he, hbg, hg', rest⟩
  · exact .inl hn
  · refine .inr ⟨g', cap, cur, he, hbg, ?_, rest⟩
    rw [ho.block g' (hp_lt hg') (by omega)]
    exact hg'
theorem smX_pos {ps : List L} {ts : List T} {xs : List E} {y : E} {s : Int} (h : smX ps ts xs = some (y, s)) : 0 ≤ s := by
  have := ((smX_inv ps ts xs).2 y s h).2.2.1
  rw [this]
  exact (dsN_le _ _).1

set_option maxRecDepth 100000 in
set_option maxHeartbeats 16000000 in
theorem rsingle_any (a h : Option Addr) (ca ch : Nat) (ps : List L) (ts : List T) (n : Int) (w : World) (hp : LinesAt w a ps) (hts : TestsAt w h ts) (hv : vp ps = 0) (ht : vts ts = 0) (h0 : 0 ≤ n) (h2 : n ≤ 2) :
    Calls Tryz.prog 26 #[.slice a ps.length ca, .slice h ts.length ch, .int .i64 n] w fun e w' => e = .returned (.tuple #[.agg (eV (bsE (smX ps ts (edL ps n)))), .bool (smX ps ts (edL ps n)).isSome]) ∧ Below w.heap.size w w' := by
  have h8 := (vp_ok hv).1
  have HC := Lib.hid (fun i w h9 (hi : i < ps.length) => rcand_any a ca ps i n w h9 hv hi h0 h2)
  have HF := Lib.hid (fun l m w => fields_any l m w)
  have HGD := Lib.hid (fun (hne : a ≠ none) (i : Nat) (m : L) (hi : i < ps.length) (hm : m ∈ cndL ps i n) g w h1 h2 h3 => rGood_any a g h ca 1 ch ps [⟨(i : Int), m⟩] ts w h1 (fun e => absurd e hne) h2 h3 (okX_of (vpx_one hv hi (cnd_ln hm))) ht)
  simp only [List.length_cons, List.length_nil, Nat.zero_add] at HGD
  have HP := Lib.hid hp
  have HT := Lib.hid hts
  have HS := Lib.hid (edK_succ ps n)
  have HCL := Lib.hid (fun i => cnd_len9 ps i n)
  have HZ := Lib.hid (show edK ps n 0 = [] from rfl)
  have HRS := Lib.hid (hp_new (w := w) (o := .cells #[.int .i64 0, .int .i64 0, .int .i64 0, .int .i64 0, .int .i64 0] 49 (0, 0)) rfl)
  have HB0 := Lib.hid (((Below.refl w.heap.size w).alloc (Nat.le_refl _) (.cells #[.int .i64 0, .int .i64 0, .int .i64 0, .int .i64 0, .int .i64 0] 49)).alloc (by simp) (.cells #[.int .i64 0, .int .i64 0, .int .i64 0, .int .i64 0, .int .i64 0] 49))
  unfold edL
  generalize edK ps n = ed at *
  clear hv ht h0 h2 hp hts
  go_enter Tryz.func26, Tryz.ntmps26
  go_wp2_with fail
  go_loopw [9, 10] (fun s9 s10 wr => ∃ k : Nat, k ≤ ps.length ∧ s10 = .int .i64 (k : Int) ∧ s9 = .int .i64 (bsS (-1) (smX ps ts (ed k))) ∧ wr.heap[w.heap.size]? = some (.cells #[.int .i64 0, .int .i64 0, .int .i64 0, .int .i64 0, .int .i64 0] 49 (0, 0)) ∧ wr.heap[w.heap.size + 1]? = some (.cells (eV (bsE (smX ps ts (ed k)))) 49 (0, 0)) ∧ Below w.heap.size w wr) (fun _ s10 _ => ps.length - (intOf s10).toNat)
  case atStart => exact ⟨0, Nat.zero_le _, rfl, by rw [HZ.out] <;> rfl, hp_alloc HRS.out, by rw [HZ.out]; exact hp_new (by simp), HB0.out⟩
  case round =>
    clear HB0 HRS
    obtain ⟨k, hk, rfl, rfl, hR, hBx, hB⟩ := hrel
    have HR := Lib.hid hR
    have HBx := Lib.hid hBx
    have HB := Lib.hid hB
    clear hR hBx hB
    by_cases hlt : k < ps.length
    · have hlt1 : decide ((k : Int) < (ps.length : Int)) = true := decide_eq_true (by omega)
      have HS1 := Lib.hid (HS.out k)
      have hcl := HCL.out k
      have HC1 := Lib.hid (fun w h9 => HC.out k w h9 hlt)
      have HG0 := Lib.hid (fun hne m hm => HGD.out hne k m hlt hm)
      obtain ⟨W0, hW0⟩ : ∃ W, W = wr := ⟨_, rfl⟩
      subst hW0
      generalize cndL ps k n = Z at *
      go_wp2_with fail
      refine (HC1.out _ (HP.out.below HB.out (Nat.le_refl _))).mono ?_
      rintro e w1 ⟨a1, k1, rfl, hq, hB⟩
      have HQ := Lib.hid hq
      have HR1 := Lib.hid (hp_below HR.out hB (hp_lt HR.out))
      have HBx1 := Lib.hid (hp_below HBx.out hB (hp_lt HBx.out))
      have HB1 := Lib.hid (HB.out.trans (hB.mono HB.out.size))
      have hgb : w.heap.size + 1 < W0.heap.size := hp_lt HBx.out
      have HBW := Lib.hid (show ∀ W, Off (w.heap.size + 1) w1 W → Below w.heap.size w W from fun W ho => HB1.out.trans (ho.below (Nat.le_succ _) HB1.out.size))
      clear hq hB HR HBx HC HC1
      go_wp2_with fail
      go_loopw [9, 12] (fun s9 s12 wx => ∃ j : Nat, j ≤ Z.length ∧ s12 = .int .i64 (j : Int) ∧ s9 = .int .i64 (bsS (-1) (smX ps ts (ed k ++ (Z.take j).map fun m => (⟨(k : Int), m⟩ : E)))) ∧ wx.heap[w.heap.size + 1]? = some (.cells (eV (bsE (smX ps ts (ed k ++ (Z.take j).map fun m => (⟨(k : Int), m⟩ : E))))) 49 (0, 0)) ∧ Off (w.heap.size + 1) w1 wx) (fun _ s12 _ => Z.length - (intOf s12).toNat)
      case atStart => exact ⟨0, Nat.zero_le _, rfl, by rw [List.take_zero, List.map_nil, List.append_nil], by rw [List.take_zero, List.map_nil, List.append_nil]; exact HBx1.out, Off.refl _ _⟩
      case round =>
        clear HBx1
        obtain ⟨j, hj, rfl, rfl, hBx, hW⟩ := hrel
        have HBx := Lib.hid hBx
        have HW := Lib.hid hW
        clear hBx hW
        by_cases hlj : j < Z.length
        · have hlj1 : decide ((j : Int) < (Z.length : Int)) = true := decide_eq_true (by omega)
          have hown := own_off5 HQ.out HW.out hgb
          obtain ⟨tb, toff, x, rfl, htl, hx, d0, d1, d2, d3⟩ := (lines_of_own hown).1.at_ hlj
          obtain ⟨b, off, l, rfl, hlb, hl, c0, c1, c2, c3⟩ := (HP.out.below (HBW.out _ HW.out) (Nat.le_refl _)).at_ hlt
          have HG1 := Lib.hid (HG0.out (fun e => by cases e) x (mem_of_get hx))
          have HCX := Lib.hid (show ∀ W, Off (w.heap.size + 1) w1 W → W.cell? ⟨tb, toff + j * 4, none⟩ = some (.int .i64 x.op) ∧ W.cell? ⟨tb, toff + j * 4 + 1, none⟩ = some (.int .i64 x.to) ∧ W.cell? ⟨tb, toff + j * 4 + 2, none⟩ = some (.int .i64 x.a) ∧ W.cell? ⟨tb, toff + j * 4 + 3, none⟩ = some (.int .i64 x.b) from fun W hW => by
            obtain ⟨b', off', x', e', _, hx', y⟩ := (lines_of_own (own_off5 HQ.out hW hgb)).1.at_ hlj
            injection e' with e'
            injection e' with e1 e2 e3
            subst e1 e2
            rw [hx] at hx'
            injection hx' with hx'
            subst hx'
            exact y)
          have HN := Lib.hid (show smX ps ts (ed k ++ (Z.take (j + 1)).map fun m => (⟨(k : Int), m⟩ : E)) = smT ps ts (smX ps ts (ed k ++ (Z.take j).map fun m => (⟨(k : Int), m⟩ : E))) ⟨(k : Int), x⟩ by rw [map_take_E hx, ← List.append_assoc, smX_snoc])
          have hse : szE ps ⟨(k : Int), x⟩ = dsN x l := by
            unfold szE
            show dsN x (lnD ps ((k : Int)).toNat) = _
            rw [Int.toNat_natCast, lnD_at hl]
          have HF1 := Lib.hid (fun w => HF.out l x w)
          rw [dsN_comm l x, ← hse] at HF1
          have hbz := dsN_le x l
          rw [← hse] at hbz
          have HPO := Lib.hid (fun y s (h9 : smX ps ts (ed k ++ (Z.take j).map fun m => (⟨(k : Int), m⟩ : E)) = some (y, s)) => smX_pos h9)
          clear hx hl hse hown HQ
          generalize smX ps ts (ed k ++ (Z.take j).map fun m => (⟨(k : Int), m⟩ : E)) = o at *
          obtain ⟨wo, hwo⟩ : ∃ W, W = wr := ⟨_, rfl⟩
          subst hwo
          unfold lv at HF1
          go_upto_region 11 with fail
          go_cut [13] (fun s13 wx => s13 = .int .i64 (szE ps ⟨(k : Int), x⟩) ∧ Below wo.heap.size wo wx)
          case first =>
            go_region_held3 (fun w' => w'.cell? ⟨b, off + k * 4, none⟩ = some (.int .i64 l.op) ∧ w'.cell? ⟨b, off + k * 4 + 1, none⟩ = some (.int .i64 l.to) ∧ w'.cell? ⟨b, off + k * 4 + 2, none⟩ = some (.int .i64 l.a) ∧ w'.cell? ⟨b, off + k * 4 + 3, none⟩ = some (.int .i64 l.b) ∧ w'.cell? ⟨tb, toff + j * 4, none⟩ = some (.int .i64 x.op) ∧ w'.cell? ⟨tb, toff + j * 4 + 1, none⟩ = some (.int .i64 x.to) ∧ w'.cell? ⟨tb, toff + j * 4 + 2, none⟩ = some (.int .i64 x.a) ∧ w'.cell? ⟨tb, toff + j * 4 + 3, none⟩ = some (.int .i64 x.b)) (first | exact ⟨c0, c1, c2, c3, d0, d1, d2, d3⟩ | exact ⟨(hBa.cell (p := ⟨b, _, none⟩) hlb).trans c0, (hBa.cell (p := ⟨b, _, none⟩) hlb).trans c1, (hBa.cell (p := ⟨b, _, none⟩) hlb).trans c2, (hBa.cell (p := ⟨b, _, none⟩) hlb).trans c3, (hBa.cell (p := ⟨tb, _, none⟩) htl).trans d0, (hBa.cell (p := ⟨tb, _, none⟩) htl).trans d1, (hBa.cell (p := ⟨tb, _, none⟩) htl).trans d2, (hBa.cell (p := ⟨tb, _, none⟩) htl).trans d3⟩ | go_keep) ((go_at_call 40; refine (HF1.out _).mono ?_; rintro e wa ⟨rfl, hBa⟩))
            all_goals go_wp2_with fail
            all_goals go_meet
            all_goals exact ⟨rfl, (Below.refl _ _).drew.trans (hBa.mono (Nat.le_refl _))⟩
          case rest =>
          obtain ⟨rfl, hbd⟩ := hcut
          have HBx := Lib.hid (hp_below HBx.out hbd (hp_lt HBx.out))
          have HW := Lib.hid (HW.out.trans (Off.low hbd))
          have htl2 : tb < wc.heap.size := Nat.lt_of_lt_of_le htl hbd.size
          have hlb2 : b < wc.heap.size := Nat.lt_of_lt_of_le hlb hbd.size
          replace d0 := (hbd.cell (p := ⟨tb, _, none⟩) htl).trans d0
          replace d1 := (hbd.cell (p := ⟨tb, _, none⟩) htl).trans d1
          replace d2 := (hbd.cell (p := ⟨tb, _, none⟩) htl).trans d2
          replace d3 := (hbd.cell (p := ⟨tb, _, none⟩) htl).trans d3
          clear hbd HF1 c0 c1 c2 c3
          have hne : w.heap.size + 1 < wc.heap.size := hp_lt HBx.out
          cases o with
          | none =>
            rw [smT_none] at HN
            generalize szE ps ⟨(k : Int), x⟩ = sz at *
            rw [show bsS (-1) none = -1 from rfl]
            cases hgd : gdB ps ts [⟨(k : Int), x⟩] with
            | false =>
              have HO := Lib.hid (show smX ps ts (ed k ++ (Z.take (j + 1)).map fun m => (⟨(k : Int), m⟩ : E)) = none by rw [HN.out, hgd]; rfl)
              rw [hgd] at HG1
              clear hgd HN
              have hal : Below wc.heap.size wc (wc.alloc (.cells #[.int .i64 (k : Int), .int .i64 x.op, .int .i64 x.to, .int .i64 x.a, .int .i64 x.b] 49)) := (Below.refl _ _).alloc (Nat.le_refl _) _
              have HX2 := Lib.hid (edit_at wc 49 ⟨(k : Int), x⟩)
              have HBA := Lib.hid ((HBW.out _ (HW.out.trans (Off.low hal))))
              have HALL := Lib.hid hal
              clear hal
              go_wp2_with fail
              refine (HG1.out _ _ (HP.out.below HBA.out (Nat.le_refl _)) HX2.out (HT.out.below HBA.out (Nat.le_refl _))).mono ?_
              rintro e w4 ⟨rfl, hB⟩
              have HBx := Lib.hid (hp_below (hp_below HBx.out HALL.out (hp_lt HBx.out)) hB (hp_lt (hp_below HBx.out HALL.out (hp_lt HBx.out))))
              have HW := Lib.hid ((HW.out.trans (Off.low HALL.out)).trans (Off.low hB))
              clear hB d0 d1 d2 d3
              go_wp2_with fail
              go_roundw
              case rel => exact ⟨j + 1, by omega, by go_num, by rw [HO.out] <;> rfl, by rw [HO.out]; exact HBx.out, HW.out⟩
              case measure => simp [intOf]; omega
            | true =>
              have HO := Lib.hid (show smX ps ts (ed k ++ (Z.take (j + 1)).map fun m => (⟨(k : Int), m⟩ : E)) = some (⟨(k : Int), x⟩, sz) by rw [HN.out, hgd]; rfl)
              rw [hgd] at HG1
              clear hgd HN
              have hal : Below wc.heap.size wc (wc.alloc (.cells #[.int .i64 (k : Int), .int .i64 x.op, .int .i64 x.to, .int .i64 x.a, .int .i64 x.b] 49)) := (Below.refl _ _).alloc (Nat.le_refl _) _
              have HX2 := Lib.hid (edit_at wc 49 ⟨(k : Int), x⟩)
              have HBA := Lib.hid ((HBW.out _ (HW.out.trans (Off.low hal))))
              have HALL := Lib.hid hal
              clear hal
              go_wp2_with fail
              refine (HG1.out _ _ (HP.out.below HBA.out (Nat.le_refl _)) HX2.out (HT.out.below HBA.out (Nat.le_refl _))).mono ?_
              rintro e w4 ⟨rfl, hB⟩
              have HBx := Lib.hid (hp_below (hp_below HBx.out HALL.out (hp_lt HBx.out)) hB (hp_lt (hp_below HBx.out HALL.out (hp_lt HBx.out))))
              have HW := Lib.hid ((HW.out.trans (Off.low HALL.out)).trans (Off.low hB))
              clear hB d0 d1 d2 d3
              have z0 := hp_cell HBx.out (j := 0) (by rfl)
              have z1 := hp_cell HBx.out (j := 1) (by rfl)
              have z2 := hp_cell HBx.out (j := 2) (by rfl)
              have z3 := hp_cell HBx.out (j := 3) (by rfl)
              have z4 := hp_cell HBx.out (j := 4) (by rfl)
              have f0 := hp_free HBx.out 0
              have f1 := hp_free HBx.out 1
              have f2 := hp_free HBx.out 2
              have f3 := hp_free HBx.out 3
              have f4 := hp_free HBx.out 4
              obtain ⟨d0, d1, d2, d3⟩ := HCX.out _ HW.out
              clear HX2
              go_wp2_with fail
              go_roundw
              case rel => exact ⟨j + 1, by omega, by go_num, by rw [HO.out] <;> rfl, by rw [HO.out]; exact (hp_put (hp_put (hp_put (hp_put (hp_put HBx.out 0 _) 1 _) 2 _) 3 _) 4 _), ((((HW.out.trans (Off.setCell _ _ _ _)).trans (Off.setCell _ _ _ _)).trans (Off.setCell _ _ _ _)).trans (Off.setCell _ _ _ _)).trans (Off.setCell _ _ _ _)⟩
              case measure => simp [intOf]; omega
          | some ys =>
            obtain ⟨y, s⟩ := ys
            have hs0 := HPO.out y s rfl
            have hs1 : decide (s < 0) = false := decide_eq_false (by omega)
            rw [show bsS (-1) (some (y, s)) = s from rfl]
            by_cases hle : s ≤ szE ps ⟨(k : Int), x⟩
            · rw [smT_skip hle] at HN
              have HO := Lib.hid (show smX ps ts (ed k ++ (Z.take (j + 1)).map fun m => (⟨(k : Int), m⟩ : E)) = some (y, s) by rw [HN.out])
              generalize szE ps ⟨(k : Int), x⟩ = sz at *
              have hd : decide (sz < s) = false := decide_eq_false (by omega)
              clear hle HN d0 d1 d2 d3
              go_wp2_with fail
              go_roundw
              case rel => exact ⟨j + 1, by omega, by go_num, by rw [HO.out] <;> rfl, by rw [HO.out]; exact HBx.out, HW.out⟩
              case measure => simp [intOf]; omega
            · rw [smT_less hle] at HN
              generalize szE ps ⟨(k : Int), x⟩ = sz at *
              have hd : decide (sz < s) = true := decide_eq_true (by omega)
              clear hle
              cases hgd : gdB ps ts [⟨(k : Int), x⟩] with
              | false =>
                have HO := Lib.hid (show smX ps ts (ed k ++ (Z.take (j + 1)).map fun m => (⟨(k : Int), m⟩ : E)) = some (y, s) by rw [HN.out, hgd]; rfl)
                rw [hgd] at HG1
                clear hgd HN
                have hal : Below wc.heap.size wc (wc.alloc (.cells #[.int .i64 (k : Int), .int .i64 x.op, .int .i64 x.to, .int .i64 x.a, .int .i64 x.b] 49)) := (Below.refl _ _).alloc (Nat.le_refl _) _
                have HX2 := Lib.hid (edit_at wc 49 ⟨(k : Int), x⟩)
                have HBA := Lib.hid ((HBW.out _ (HW.out.trans (Off.low hal))))
                have HALL := Lib.hid hal
                clear hal
                go_wp2_with fail
                refine (HG1.out _ _ (HP.out.below HBA.out (Nat.le_refl _)) HX2.out (HT.out.below HBA.out (Nat.le_refl _))).mono ?_
                rintro e w4 ⟨rfl, hB⟩
                have HBx := Lib.hid (hp_below (hp_below HBx.out HALL.out (hp_lt HBx.out)) hB (hp_lt (hp_below HBx.out HALL.out (hp_lt HBx.out))))
                have HW := Lib.hid ((HW.out.trans (Off.low HALL.out)).trans (Off.low hB))
                clear hB d0 d1 d2 d3
                go_wp2_with fail
                go_roundw
                case rel => exact ⟨j + 1, by omega, by go_num, by rw [HO.out] <;> rfl, by rw [HO.out]; exact HBx.out, HW.out⟩
                case measure => simp [intOf]; omega
              | true =>
                have HO := Lib.hid (show smX ps ts (ed k ++ (Z.take (j + 1)).map fun m => (⟨(k : Int), m⟩ : E)) = some (⟨(k : Int), x⟩, sz) by rw [HN.out, hgd]; rfl)
                rw [hgd] at HG1
                clear hgd HN
                have hal : Below wc.heap.size wc (wc.alloc (.cells #[.int .i64 (k : Int), .int .i64 x.op, .int .i64 x.to, .int .i64 x.a, .int .i64 x.b] 49)) := (Below.refl _ _).alloc (Nat.le_refl _) _
                have HX2 := Lib.hid (edit_at wc 49 ⟨(k : Int), x⟩)
                have HBA := Lib.hid ((HBW.out _ (HW.out.trans (Off.low hal))))
                have HALL := Lib.hid hal
                clear hal
                go_wp2_with fail
                refine (HG1.out _ _ (HP.out.below HBA.out (Nat.le_refl _)) HX2.out (HT.out.below HBA.out (Nat.le_refl _))).mono ?_
                rintro e w4 ⟨rfl, hB⟩
                have HBx := Lib.hid (hp_below (hp_below HBx.out HALL.out (hp_lt HBx.out)) hB (hp_lt (hp_below HBx.out HALL.out (hp_lt HBx.out))))
                have HW := Lib.hid ((HW.out.trans (Off.low HALL.out)).trans (Off.low hB))
                clear hB d0 d1 d2 d3
                have z0 := hp_cell HBx.out (j := 0) (by rfl)
                have z1 := hp_cell HBx.out (j := 1) (by rfl)
                have z2 := hp_cell HBx.out (j := 2) (by rfl)
                have z3 := hp_cell HBx.out (j := 3) (by rfl)
                have z4 := hp_cell HBx.out (j := 4) (by rfl)
                have f0 := hp_free HBx.out 0
                have f1 := hp_free HBx.out 1
                have f2 := hp_free HBx.out 2
                have f3 := hp_free HBx.out 3
                have f4 := hp_free HBx.out 4
                obtain ⟨d0, d1, d2, d3⟩ := HCX.out _ HW.out
                clear HX2
                go_wp2_with fail
                go_roundw
                case rel => exact ⟨j + 1, by omega, by go_num, by rw [HO.out] <;> rfl, by rw [HO.out]; exact (hp_put (hp_put (hp_put (hp_put (hp_put HBx.out 0 _) 1 _) 2 _) 3 _) 4 _), ((((HW.out.trans (Off.setCell _ _ _ _)).trans (Off.setCell _ _ _ _)).trans (Off.setCell _ _ _ _)).trans (Off.setCell _ _ _ _)).trans (Off.setCell _ _ _ _)⟩
                case measure => simp [intOf]; omega
        · obtain rfl : j = Z.length := by omega
          have hlj1 : decide ((Z.length : Int) < (Z.length : Int)) = false := decide_eq_false (by omega)
          rw [List.take_length, ← HS1.out]
          have hBx := HBx.out
          rw [List.take_length, ← HS1.out] at hBx
          have HBx := Lib.hid hBx
          have HR2 := Lib.hid ((HW.out.block _ (hp_lt HR1.out) (Nat.ne_of_lt (Nat.lt_succ_self _))).trans HR1.out)
          have HB2 := Lib.hid (HBW.out _ HW.out)
          clear hBx
          go_wp2_with fail
          go_roundw
          case rel => exact ⟨k + 1, by omega, by go_num, rfl, HR2.out, HBx.out, HB2.out⟩
          case measure => simp [intOf]; omega
    · obtain rfl : k = ps.length := by omega
      have hlt1 : decide ((ps.length : Int) < (ps.length : Int)) = false := decide_eq_false (by omega)
      have hse : decide (0 ≤ bsS (-1) (smX ps ts (ed ps.length))) = (smX ps ts (ed ps.length)).isSome := by
        cases ho : smX ps ts (ed ps.length) with
        | none => rfl
        | some ys =>
          obtain ⟨y, s⟩ := ys
          have := smX_pos ho
          exact decide_eq_true this
      obtain ⟨bs, hbs⟩ : ∃ bs, bs = bsS (-1) (smX ps ts (ed ps.length)) := ⟨_, rfl⟩
      obtain ⟨bb, hbb⟩ : ∃ bb, bb = bsE (smX ps ts (ed ps.length)) := ⟨_, rfl⟩
      obtain ⟨bo, hbo⟩ : ∃ bo, bo = (smX ps ts (ed ps.length)).isSome := ⟨_, rfl⟩
      rw [← hbb] at HBx
      rw [← hbs, ← hbo] at hse
      rw [← hbs]
      have HBB := Lib.hid hbb
      have HBO := Lib.hid hbo
      unfold eV at HBx
      clear hbb hbo hbs
      have y0 := hp_cell HBx.out (j := 0) (by rfl)
      have y1 := hp_cell HBx.out (j := 1) (by rfl)
      have y2 := hp_cell HBx.out (j := 2) (by rfl)
      have y3 := hp_cell HBx.out (j := 3) (by rfl)
      have y4 := hp_cell HBx.out (j := 4) (by rfl)
      have z0 := hp_cell HR.out (j := 0) (by rfl)
      have z1 := hp_cell HR.out (j := 1) (by rfl)
      have z2 := hp_cell HR.out (j := 2) (by rfl)
      have z3 := hp_cell HR.out (j := 3) (by rfl)
      have z4 := hp_cell HR.out (j := 4) (by rfl)
      have f0 := hp_free HR.out 0
      have f1 := hp_free HR.out 1
      have f2 := hp_free HR.out 2
      have f3 := hp_free HR.out 3
      have f4 := hp_free HR.out 4
      go_wp2_with fail
      refine bodyPost_ret (v := .tuple #[.agg #[.int .i64 bb.at_, .int .i64 bb.ln.op, .int .i64 bb.ln.to, .int .i64 bb.ln.a, .int .i64 bb.ln.b], .bool bo]) ?_ rfl ⟨by rw [← HBB.out, ← HBO.out]; rfl, (((((HB.out.setCell (p := ⟨w.heap.size, _, none⟩) (Nat.le_refl _) _).setCell (p := ⟨w.heap.size, _, none⟩) (Nat.le_refl _) _).setCell (p := ⟨w.heap.size, _, none⟩) (Nat.le_refl _) _).setCell (p := ⟨w.heap.size, _, none⟩) (Nat.le_refl _) _).setCell (p := ⟨w.heap.size, _, none⟩) (Nat.le_refl _) _)⟩
      exact results_cell_tmp5 (p := 6) (ty := 49) rfl _ _ w.heap.size 49 _ (0, 0) (by rfl) (hp_put (hp_put (hp_put (hp_put (hp_put HR.out 0 _) 1 _) 2 _) 3 _) 4 _) Tryz.underlying49 size_ed5 rfl

end Go.Proofs.YtfclfmloceddfaaGreat
