/- double of the document: contract. -/
import Derived.Test.YtfclfmloceddfaaGreatDbG
import Derived.IntWalk
import Derived.Deep.RegionHeld
set_option linter.unusedVariables false
set_option linter.unusedSimpArgs false
namespace Go.Proofs.YtfclfmloceddfaaGreat
open Go.RowKit Go.Shelf Tinker

theorem info_lnsD : (Tryz.prog.info? 22).map (fun i => (i.zero, i.size, i.bytes)) = some (some (.slice none 0 0), 1, 24) := by kernel_rfl
theorem edit2_at (w : World) (t : TypeId) (z : E × E) : EditsAt (w.alloc (.cells #[.int .i64 z.1.at_, .int .i64 z.1.ln.op, .int .i64 z.1.ln.to, .int .i64 z.1.ln.a, .int .i64 z.1.ln.b, .int .i64 z.2.at_, .int .i64 z.2.ln.op, .int .i64 z.2.ln.to, .int .i64 z.2.ln.a, .int .i64 z.2.ln.b] t)) (some ⟨w.heap.size, 0, none⟩) (pE z) := by
  refine .inr ⟨w.heap.size, 0, rfl, by simp, fun j e hj => ?_⟩
  rw [Nat.zero_add]
  match j, hj with
  | 0, h => simp [pE] at h; subst h; exact ⟨hp_cell (hp_new rfl) rfl, hp_cell (hp_new rfl) rfl, hp_cell (hp_new rfl) rfl, hp_cell (hp_new rfl) rfl, hp_cell (hp_new rfl) rfl⟩
  | 1, h => simp [pE] at h; subst h; exact ⟨hp_cell (hp_new rfl) rfl, hp_cell (hp_new rfl) rfl, hp_cell (hp_new rfl) rfl, hp_cell (hp_new rfl) rfl, hp_cell (hp_new rfl) rfl⟩

set_option maxRecDepth 100000 in
set_option maxHeartbeats 16000000 in
theorem rdouble_any (a h : Option Addr) (ca ch : Nat) (ps : List L) (ts : List T) (w : World) (hp : LinesAt w a ps) (hts : TestsAt w h ts) (hv : vp ps = 0) (ht : vts ts = 0) :
    Calls Tryz.prog 21 #[.slice a ps.length ca, .slice h ts.length ch] w (GivesDb (dbL ps ts) (dbO ps ts).isSome w) := by
  have h8 := (vp_ok hv).1
  have hvl := (vp_ok hv).2
  obtain ⟨j0, hjj, jz0, jz1, jz2⟩ := info_parts info_lnsD
  have HTM := Lib.hid (fun (l : L) w hl => rtemplates_any l w hl)
  have HF := Lib.hid (fun l m w => fields_any l m w)
  have HGD := Lib.hid (fun (hne : a ≠ none) (k m : Nat) (x y : L) (hk : k < m) (hm : m < ps.length) (hx : x ∈ cndL ps k 0) (hy : y ∈ cndL ps m 0) g w h1 h2 h3 => rGood_any a g h ca 2 ch ps (pE ((⟨(k : Int), x⟩ : E), (⟨(m : Int), y⟩ : E))) ts w h1 (fun e => absurd e hne) h2 h3 (okX_of (pE_ok2 hv hk hm hx hy)) ht)
  have hpl : ∀ z : E × E, (pE z).length = 2 := fun _ => rfl
  simp only [hpl] at HGD
  clear hpl
  have HP := Lib.hid hp
  have HT := Lib.hid hts
  have HVL := Lib.hid hvl
  have HCL := Lib.hid (fun i => cnd_len9 ps i 0)
  have HZT := Lib.hid (fun (k : Nat) (l : L) (hl : ps[k]? = some l) => show cndL ps k 0 = tmpl l by rw [cnd_tmplD, lnD_at hl])
  have F1 := Lib.hid (D2_zero ps ts)
  have F2 := Lib.hid (D2_next ps ts)
  have F3 := Lib.hid (D2_last ps ts)
  have F4 := Lib.hid (D3_first ps ts)
  have F5 := Lib.hid (fun k j hk hj => D3_last (ps := ps) ts (k := k) (j := j) hk hj)
  have F6 := Lib.hid (D4_zero ps ts)
  have F7 := Lib.hid (fun k m j hm => D4_last (ps := ps) ts (k := k) (m := m) j hm)
  have F8 := Lib.hid (fun k j m q x y h1 h2 h3 => D4_next (ps := ps) ts (k := k) (j := j) (m := m) (q := q) (x := x) (y := y) h1 h2 h3)
  have F9 := Lib.hid (D4_pos ps ts)
  have HSZ := Lib.hid (fun (k : Nat) (l x : L) (hl : ps[k]? = some l) => show dsN l x = szE ps (⟨(k : Int), x⟩ : E) by
    unfold szE
    show _ = dsN x (lnD ps ((k : Int)).toNat)
    rw [Int.toNat_natCast, lnD_at hl, dsN_comm])
  have HSB := Lib.hid (fun e => show 0 ≤ szE ps e ∧ szE ps e ≤ 4 from dsN_le _ _)
  have HDL := Lib.hid (bestL_db ps ts)
  have HDS := Lib.hid (bestS_db (dbO ps ts) (dbO_pos ps ts))
  unfold GivesDb
  generalize dbL ps ts = DL at *
  generalize dbO ps ts = DO at *
  generalize D2 ps ts = d2 at *
  generalize D3 ps ts = d3 at *
  generalize D4 ps ts = d4 at *
  generalize hZ : (fun i => cndL ps i 0) = Z at *
  have HZ := Lib.hid (fun i => show cndL ps i 0 = Z i by rw [← hZ])
  clear hZ
  simp only [HZ.out] at HGD HCL HZT F2 F5 F7 F8
  clear hv hvl ht hp hts
  go_enter Tryz.func21, Tryz.ntmps21
  go_wp2_with fail
  go_loopw [6, 7] (fun s6 s7 wr => ∃ (k : Nat) (v : Value) (xs : List Value), k ≤ ps.length ∧ s6 = v ∧ s7 = .int .i64 (k : Int) ∧ NearI w Z k v xs wr) (fun _ s7 _ => ps.length - (intOf s7).toNat)
  case atStart => exact ⟨0, _, _, Nat.zero_le _, rfl, rfl, NearI.nil (Below.refl _ _)⟩
  case round =>
    obtain ⟨k, v, xs, hk, hv0, rfl, hI⟩ := hrel
    have hv0' := hv0.symm
    subst hv0'
    by_cases hlt : k < ps.length
    · have hlt1 : decide ((k : Int) < (ps.length : Int)) = true := decide_eq_true (by omega)
      obtain ⟨b, off, l, rfl, hlb, hl, c0, c1, c2, c3⟩ := (HP.out.below hI.below (Nat.le_refl _)).at_ hlt
      have HTM1 := Lib.hid (fun w => HTM.out l w (HVL.out l (mem_of_get hl)))
      rw [← HZT.out k l hl] at HTM1
      unfold lv at HTM1
      have HI := Lib.hid hI
      have hzl := HCL.out k
      clear hI hl hv0
      go_wp2_with fail
      refine (HTM1.out _).mono ?_
      rintro e w1 ⟨a1, k1, rfl, hq, hB⟩
      have HI1 := Lib.hid (HI.out.low hB)
      have hsz := HI.out.below.size
      have HQ := Lib.hid (own_mono hq hsz)
      have hsz1 := HI1.out.below.size
      clear hq hB HI c0 c1 c2 c3
      generalize hzn : (Z k).length = zn at *
      have HZN := Lib.hid hzn
      clear hzn
      have HI2 := Lib.hid (HI1.out.low ((Below.refl w1.heap.size w1).alloc (Nat.le_refl _) (.cells #[.slice a1 zn k1] 22)))
      have HQ2 := Lib.hid (own_below HQ.out ((Below.refl w1.heap.size w1).alloc (Nat.le_refl _) (.cells #[.slice a1 zn k1] 22)) (Nat.le_refl _))
      go_wp2_with (at_builtin; (refine wpList_append_own _ rfl (.tmp 23) (.tmp 29) 78 rfl w.heap.size 22 j0 (.slice none 0 0) 1 24 Tryz.underlying78 hjj jz0 jz1 jz2 rfl (by decide) _ _ _ rfl HI2.out.own ⟨w1.heap.size, 0, none⟩ 1 1 [.slice a1 zn k1] rfl (by rfl) (cell_one_new _ _ _) (by simp [Value.oneCell']) (by unfold maxLen; omega) (by omega) (by simp; omega) ?_))
      intro v' w4 hown' hgrow _
      have HP2 := Lib.hid (HI2.out.push HZN.out HQ2.out hown' hgrow)
      clear hown' hgrow HI2 HQ2 HI1 HQ
      go_wp2_with fail
      go_roundw
      case rel => exact ⟨k + 1, _, _, by omega, rfl, by go_num, HP2.out⟩
      case measure => simp [intOf]; omega
    · obtain rfl : k = ps.length := by omega
      have HB3 := Lib.hid hI.below
      have HNV := Lib.hid (fun (hn : 0 < ps.length) => show ∃ gn cn, v = Value.slice (some ⟨gn, 0, none⟩) ps.length cn ∧ NearAt wr gn Z ps.length by
        obtain ⟨va, vc, rfl⟩ := own_slice hI.own
        obtain ⟨gn, rfl⟩ := own_form hI.own hn
        exact ⟨gn, vc, rfl, hI.at_⟩)
      obtain ⟨w3, hw3⟩ : ∃ W, W = wr := ⟨_, rfl⟩
      subst hw3
      have HPW := Lib.hid (HP.out.below HB3.out (Nat.le_refl _))
      have HTW := Lib.hid (HT.out.below HB3.out (Nat.le_refl _))
      have hlt1 : decide ((ps.length : Int) < (ps.length : Int)) = false := decide_eq_false (by omega)
      clear hI hlt hk hv0 HP HT
      go_wp2_with fail
      go_loopw [8, 9, 10] (fun s8 s9 s10 wr => ∃ (k : Nat) (u : Value), k ≤ ps.length ∧ s8 = u ∧ s9 = .int .i64 (bestS (d2 k 0)) ∧ s10 = .int .i64 (k : Int) ∧ BestI (d2 k 0) u wr ∧ Below w3.heap.size w3 wr) (fun _ _ s10 _ => ps.length - (intOf s10).toNat)
      case atStart => exact ⟨0, _, Nat.zero_le _, rfl, by rw [F1.out] <;> rfl, rfl, by rw [F1.out]; exact ⟨none, 0, rfl, .inl rfl⟩, Below.refl _ _⟩
      case round =>
        obtain ⟨k, u, hk, hu0, rfl, rfl, hU, hB⟩ := hrel
        have hu0' := hu0.symm
        subst hu0'
        have HU := Lib.hid hU
        have HB := Lib.hid hB
        clear hU hB hu0
        by_cases hlt : k < ps.length
        · have hlt2 : decide ((k : Int) < (ps.length : Int)) = true := decide_eq_true (by omega)
          have hkn : (k : Int) < (ps.length : Int) := by omega
          obtain ⟨gn, cn, hvv, hna⟩ := HNV.out (by omega)
          subst hvv
          have hgn := hna.1
          have HNA := Lib.hid hna.2
          obtain ⟨a1, k1, z10, hl1⟩ := hna.2 k hlt
          obtain ⟨b, off, l, ea, hl_b, hl, c00, c10, c20, c30⟩ := HPW.out.at_ hlt
          have HC1 := Lib.hid (And.intro c00 (And.intro c10 (And.intro c20 c30)))
          have HL1 := Lib.hid hl1
          have HLL := Lib.hid hl
          have HZ1 := Lib.hid z10
          have hzk := HCL.out k
          subst ea
          have F2k := Lib.hid (F2.out k)
          obtain ⟨W1, hW1⟩ : ∃ W, W = wr := ⟨_, rfl⟩
          subst hW1
          clear hna z10 hl1 hl c00 c10 c20 c30
          go_wp2_with fail
          go_loopw [8, 9, 11] (fun s8 s9 s11 wr => ∃ (j : Nat) (u : Value), j ≤ (Z k).length ∧ s8 = u ∧ s9 = .int .i64 (bestS (d2 k j)) ∧ s11 = .int .i64 (j : Int) ∧ BestI (d2 k j) u wr ∧ Below w3.heap.size w3 wr) (fun _ _ s11 _ => (Z k).length - (intOf s11).toNat)
          case atStart => exact ⟨0, _, Nat.zero_le _, rfl, rfl, rfl, HU.out, HB.out⟩
          case round =>
            clear HU HB
            obtain ⟨j, u, hj, hu0, rfl, rfl, hU, hB⟩ := hrel
            have hu0' := hu0.symm
            subst hu0'
            have HU := Lib.hid hU
            have HB := Lib.hid hB
            have z0 := (hB.cell (p := ⟨gn, k, none⟩) hgn).trans HZ1.out
            clear hU hB hu0
            by_cases hlj : j < (Z k).length
            · have hlj1 : decide ((j : Int) < ((Z k).length : Int)) = true := decide_eq_true (by omega)
              have hjn : (j : Int) < ((Z k).length : Int) := by omega
              obtain ⟨tb, toff, x, ea, hl_tb, hx, d00, d10, d20, d30⟩ := HL1.out.at_ hlj
              subst ea
              have HD1 := Lib.hid (And.intro d00 (And.intro d10 (And.intro d20 d30)))
              have HX := Lib.hid hx
              have HF1 := Lib.hid (fun w => HF.out l x w)
              rw [HSZ.out k l x HLL.out] at HF1
              unfold lv at HF1
              have hsx := HSB.out ⟨(k : Int), x⟩
              generalize hsz1 : szE ps (⟨(k : Int), x⟩ : E) = sx at *
              have HSX := Lib.hid hsz1
              have F4k := Lib.hid (F4.out k j)
              have F5k := Lib.hid (F5.out k j hlt hlj)
              clear hx hsz1 d00 d10 d20 d30
              have hBW := HB.out.size
              obtain ⟨c00, c10, c20, c30⟩ := HC1.out
              obtain ⟨d00, d10, d20, d30⟩ := HD1.out
              have c0 := (HB.out.cell (p := ⟨b, _, none⟩) hl_b).trans c00
              have c1 := (HB.out.cell (p := ⟨b, _, none⟩) hl_b).trans c10
              have c2 := (HB.out.cell (p := ⟨b, _, none⟩) hl_b).trans c20
              have c3 := (HB.out.cell (p := ⟨b, _, none⟩) hl_b).trans c30
              have f0 := (HB.out.cell (p := ⟨tb, _, none⟩) hl_tb).trans d00
              have f1 := (HB.out.cell (p := ⟨tb, _, none⟩) hl_tb).trans d10
              have f2 := (HB.out.cell (p := ⟨tb, _, none⟩) hl_tb).trans d20
              have f3 := (HB.out.cell (p := ⟨tb, _, none⟩) hl_tb).trans d30
              clear c00 c10 c20 c30 d00 d10 d20 d30
              go_upto_region 14 with fail
              obtain ⟨wo, hwo⟩ : ∃ W, W = wr := ⟨_, rfl⟩
              subst hwo
              go_cut [12] (fun s wx => s = .int .i64 (sx) ∧ Below wo.heap.size wo wx)
              case first =>
                go_region_held3 (fun w' => w'.cell? ⟨b, off + k * 4, none⟩ = some (.int .i64 l.op) ∧ w'.cell? ⟨b, off + k * 4 + 1, none⟩ = some (.int .i64 l.to) ∧ w'.cell? ⟨b, off + k * 4 + 2, none⟩ = some (.int .i64 l.a) ∧ w'.cell? ⟨b, off + k * 4 + 3, none⟩ = some (.int .i64 l.b) ∧ w'.cell? ⟨gn, k, none⟩ = some (.slice (some ⟨tb, toff, none⟩) (Z k).length k1) ∧ w'.cell? ⟨tb, toff + j * 4, none⟩ = some (.int .i64 x.op) ∧ w'.cell? ⟨tb, toff + j * 4 + 1, none⟩ = some (.int .i64 x.to) ∧ w'.cell? ⟨tb, toff + j * 4 + 2, none⟩ = some (.int .i64 x.a) ∧ w'.cell? ⟨tb, toff + j * 4 + 3, none⟩ = some (.int .i64 x.b)) (first | exact ⟨c0, c1, c2, c3, z0, f0, f1, f2, f3⟩ | exact ⟨(hBa.cell (p := ⟨b, _, none⟩) (Nat.lt_of_lt_of_le hl_b hBW)).trans c0, (hBa.cell (p := ⟨b, _, none⟩) (Nat.lt_of_lt_of_le hl_b hBW)).trans c1, (hBa.cell (p := ⟨b, _, none⟩) (Nat.lt_of_lt_of_le hl_b hBW)).trans c2, (hBa.cell (p := ⟨b, _, none⟩) (Nat.lt_of_lt_of_le hl_b hBW)).trans c3, (hBa.cell (p := ⟨gn, _, none⟩) (Nat.lt_of_lt_of_le hgn hBW)).trans z0, (hBa.cell (p := ⟨tb, _, none⟩) (Nat.lt_of_lt_of_le hl_tb hBW)).trans f0, (hBa.cell (p := ⟨tb, _, none⟩) (Nat.lt_of_lt_of_le hl_tb hBW)).trans f1, (hBa.cell (p := ⟨tb, _, none⟩) (Nat.lt_of_lt_of_le hl_tb hBW)).trans f2, (hBa.cell (p := ⟨tb, _, none⟩) (Nat.lt_of_lt_of_le hl_tb hBW)).trans f3⟩ | go_keep) ((go_at_call 40; refine (HF1.out _).mono ?_; rintro e wa ⟨rfl, hBa⟩))
                all_goals go_wp2_with fail
                all_goals go_meet
                all_goals exact ⟨rfl, (Below.refl _ _).drew.trans (hBa.mono (Nat.le_refl _))⟩
              case rest =>
              obtain ⟨rfl, hbd⟩ := hcut
              have HU := Lib.hid (HU.out.below hbd)
              have HB := Lib.hid (HB.out.trans (hbd.mono HB.out.size))
              clear hbd hBW c0 c1 c2 c3 f0 f1 f2 f3 z0
              go_wp2_with fail
              go_loopw [8, 9, 13] (fun s8 s9 s13 wr => ∃ (m : Nat) (u : Value), k + 1 ≤ m ∧ m ≤ ps.length ∧ s8 = u ∧ s9 = .int .i64 (bestS (d3 k j m)) ∧ s13 = .int .i64 (m : Int) ∧ BestI (d3 k j m) u wr ∧ Below w3.heap.size w3 wr) (fun _ _ s13 _ => ps.length - (intOf s13).toNat)
              case atStart => exact ⟨k + 1, _, Nat.le_refl _, by omega, rfl, by rw [F4k.out], by go_num, by rw [F4k.out]; exact HU.out, HB.out⟩
              case round =>
                clear HU HB
                obtain ⟨m, u, hkm, hm, hu0, rfl, rfl, hU, hB⟩ := hrel
                have hu0' := hu0.symm
                subst hu0'
                have HU := Lib.hid hU
                have HB := Lib.hid hB
                clear hU hB hu0
                by_cases hlm : m < ps.length
                · have hlm1 : decide ((m : Int) < (ps.length : Int)) = true := decide_eq_true (by omega)
                  have hmn : (m : Int) < (ps.length : Int) := by omega
                  obtain ⟨a2, k2, z20, hl2⟩ := HNA.out m hlm
                  obtain ⟨b2, off2, l2, ea2, hl_b2, hl2m, c00, c10, c20, c30⟩ := HPW.out.at_ hlm
                  injection ea2 with ea2
                  injection ea2 with ea3 ea4 _
                  have HC2 := Lib.hid (And.intro c00 (And.intro c10 (And.intro c20 c30)))
                  have HL2 := Lib.hid hl2
                  have HLM := Lib.hid hl2m
                  have HZ2 := Lib.hid z20
                  have hzm := HCL.out m
                  have F6k := Lib.hid (F6.out k j m)
                  have F7k := Lib.hid (F7.out k m j hkm)
                  subst ea3 ea4
                  obtain ⟨W3, hW3⟩ : ∃ W, W = wr := ⟨_, rfl⟩
                  subst hW3
                  clear z20 hl2 hl2m c00 c10 c20 c30
                  go_wp2_with fail
                  go_loopw [8, 9, 14] (fun s8 s9 s14 wr => ∃ (q : Nat) (u : Value), q ≤ (Z m).length ∧ s8 = u ∧ s9 = .int .i64 (bestS (d4 k j m q)) ∧ s14 = .int .i64 (q : Int) ∧ BestI (d4 k j m q) u wr ∧ Below w3.heap.size w3 wr) (fun _ _ s14 _ => (Z m).length - (intOf s14).toNat)
                  case atStart => exact ⟨0, _, Nat.zero_le _, rfl, by rw [F6k.out], rfl, by rw [F6k.out]; exact HU.out, HB.out⟩
                  case round =>
                    clear HU HB
                    obtain ⟨q, u, hq, hu0, rfl, rfl, hU, hB⟩ := hrel
                    have hu0' := hu0.symm
                    subst hu0'
                    have HU := Lib.hid hU
                    have HB := Lib.hid hB
                    have z0 := (hB.cell (p := ⟨gn, m, none⟩) hgn).trans HZ2.out
                    clear hU hB hu0
                    by_cases hlq : q < (Z m).length
                    · have hlq1 : decide ((q : Int) < ((Z m).length : Int)) = true := decide_eq_true (by omega)
                      have hqn : (q : Int) < ((Z m).length : Int) := by omega
                      obtain ⟨tb2, toff2, y, ea, hl_tb2, hy, d00, d10, d20, d30⟩ := HL2.out.at_ hlq
                      subst ea
                      have HD2 := Lib.hid (And.intro d00 (And.intro d10 (And.intro d20 d30)))
                      have HF2 := Lib.hid (fun w => HF.out l2 y w)
                      rw [HSZ.out m l2 y HLM.out] at HF2
                      unfold lv at HF2
                      have hsy := HSB.out ⟨(m : Int), y⟩
                      have HSP : Hid (szP ps ((⟨(k : Int), x⟩ : E), (⟨(m : Int), y⟩ : E)) = sx + szE ps (⟨(m : Int), y⟩ : E)) := Lib.hid (by unfold szP; rw [HSX.out])
                      have HN := Lib.hid (F8.out k j m q x y hkm HX.out hy)
                      have HPO := Lib.hid (F9.out k j m q)
                      have HG1 := Lib.hid (HGD.out (fun e => by cases e) k m x y (by omega) hlm (mem_of_get HX.out) (mem_of_get hy))
                      generalize szE ps (⟨(m : Int), y⟩ : E) = sy at *
                      have HSPP : Hid (szP ps ((⟨(k : Int), x⟩ : E), (⟨(m : Int), y⟩ : E)) = sx + sy) := Lib.hid HSP.out
                      obtain ⟨sp, hsp⟩ : ∃ sp, sp = sx + sy := ⟨_, rfl⟩
                      rw [← hsp] at HSPP
                      have HSE := Lib.hid hsp
                      have hsp0 : 0 ≤ sp := by omega
                      clear hsp
                      generalize d4 k j m q = o at *
                      clear hy d00 d10 d20 d30
                      have hBW := HB.out.size
                      obtain ⟨c00, c10, c20, c30⟩ := HC2.out
                      obtain ⟨d00, d10, d20, d30⟩ := HD2.out
                      have c0 := (HB.out.cell (p := ⟨b, _, none⟩) hl_b).trans c00
                      have c1 := (HB.out.cell (p := ⟨b, _, none⟩) hl_b).trans c10
                      have c2 := (HB.out.cell (p := ⟨b, _, none⟩) hl_b).trans c20
                      have c3 := (HB.out.cell (p := ⟨b, _, none⟩) hl_b).trans c30
                      have f0 := (HB.out.cell (p := ⟨tb2, _, none⟩) hl_tb2).trans d00
                      have f1 := (HB.out.cell (p := ⟨tb2, _, none⟩) hl_tb2).trans d10
                      have f2 := (HB.out.cell (p := ⟨tb2, _, none⟩) hl_tb2).trans d20
                      have f3 := (HB.out.cell (p := ⟨tb2, _, none⟩) hl_tb2).trans d30
                      clear c00 c10 c20 c30 d00 d10 d20 d30
                      have hsum : IntKind.i64.wrap (sx + sy) = sx + sy := IntWalk.i64_in _ (by omega)
                      go_upto_region 21 with fail
                      obtain ⟨wo, hwo⟩ : ∃ W, W = wr := ⟨_, rfl⟩
                      subst hwo
                      go_cut [15] (fun s wx => s = .int .i64 (sx + sy) ∧ Below wo.heap.size wo wx)
                      case first =>
                        go_region_held3 (fun w' => w'.cell? ⟨b, off + m * 4, none⟩ = some (.int .i64 l2.op) ∧ w'.cell? ⟨b, off + m * 4 + 1, none⟩ = some (.int .i64 l2.to) ∧ w'.cell? ⟨b, off + m * 4 + 2, none⟩ = some (.int .i64 l2.a) ∧ w'.cell? ⟨b, off + m * 4 + 3, none⟩ = some (.int .i64 l2.b) ∧ w'.cell? ⟨gn, m, none⟩ = some (.slice (some ⟨tb2, toff2, none⟩) (Z m).length k2) ∧ w'.cell? ⟨tb2, toff2 + q * 4, none⟩ = some (.int .i64 y.op) ∧ w'.cell? ⟨tb2, toff2 + q * 4 + 1, none⟩ = some (.int .i64 y.to) ∧ w'.cell? ⟨tb2, toff2 + q * 4 + 2, none⟩ = some (.int .i64 y.a) ∧ w'.cell? ⟨tb2, toff2 + q * 4 + 3, none⟩ = some (.int .i64 y.b)) (first | exact ⟨c0, c1, c2, c3, z0, f0, f1, f2, f3⟩ | exact ⟨(hBa.cell (p := ⟨b, _, none⟩) (Nat.lt_of_lt_of_le hl_b hBW)).trans c0, (hBa.cell (p := ⟨b, _, none⟩) (Nat.lt_of_lt_of_le hl_b hBW)).trans c1, (hBa.cell (p := ⟨b, _, none⟩) (Nat.lt_of_lt_of_le hl_b hBW)).trans c2, (hBa.cell (p := ⟨b, _, none⟩) (Nat.lt_of_lt_of_le hl_b hBW)).trans c3, (hBa.cell (p := ⟨gn, _, none⟩) (Nat.lt_of_lt_of_le hgn hBW)).trans z0, (hBa.cell (p := ⟨tb2, _, none⟩) (Nat.lt_of_lt_of_le hl_tb2 hBW)).trans f0, (hBa.cell (p := ⟨tb2, _, none⟩) (Nat.lt_of_lt_of_le hl_tb2 hBW)).trans f1, (hBa.cell (p := ⟨tb2, _, none⟩) (Nat.lt_of_lt_of_le hl_tb2 hBW)).trans f2, (hBa.cell (p := ⟨tb2, _, none⟩) (Nat.lt_of_lt_of_le hl_tb2 hBW)).trans f3⟩ | go_keep) ((go_at_call 40; refine (HF2.out _).mono ?_; rintro e wa ⟨rfl, hBa⟩))
                        all_goals go_wp2_with fail
                        all_goals go_meet
                        all_goals exact ⟨rfl, (Below.refl _ _).drew.trans (hBa.mono (Nat.le_refl _))⟩
                      case rest =>
                      obtain ⟨rfl, hbd⟩ := hcut
                      have HU := Lib.hid (HU.out.below hbd)
                      have HB := Lib.hid (HB.out.trans (hbd.mono HB.out.size))
                      clear hbd hBW c0 c1 c2 c3 f0 f1 f2 f3 z0
                      rw [← HSE.out]
                      cases o with
                      | none =>
                        rw [dmT_none] at HN
                        rw [show bestS none = -1 from rfl]
                        cases hgd : gdB ps ts (pE ((⟨(k : Int), x⟩ : E), (⟨(m : Int), y⟩ : E))) with
                        | false =>
                          have HO := Lib.hid (show d4 k j m (q + 1) = none by rw [HN.out]; rw [hgd, HSPP.out]; rfl)
                          rw [hgd] at HG1
                          clear hgd HN
                          have z1 := (HB.out.cell (p := ⟨gn, k, none⟩) hgn).trans HZ1.out
                          have z2 := (HB.out.cell (p := ⟨gn, m, none⟩) hgn).trans HZ2.out
                          obtain ⟨d00, d10, d20, d30⟩ := HD1.out
                          obtain ⟨g00, g10, g20, g30⟩ := HD2.out
                          have hBW := HB.out.size
                          have f0 := (HB.out.cell (p := ⟨tb, _, none⟩) hl_tb).trans d00
                          have f1 := (HB.out.cell (p := ⟨tb, _, none⟩) hl_tb).trans d10
                          have f2 := (HB.out.cell (p := ⟨tb, _, none⟩) hl_tb).trans d20
                          have f3 := (HB.out.cell (p := ⟨tb, _, none⟩) hl_tb).trans d30
                          have g0 := (HB.out.cell (p := ⟨tb2, _, none⟩) hl_tb2).trans g00
                          have g1 := (HB.out.cell (p := ⟨tb2, _, none⟩) hl_tb2).trans g10
                          have g2 := (HB.out.cell (p := ⟨tb2, _, none⟩) hl_tb2).trans g20
                          have g3 := (HB.out.cell (p := ⟨tb2, _, none⟩) hl_tb2).trans g30
                          clear d00 d10 d20 d30 g00 g10 g20 g30
                          go_wp2_with fail
                          refine wp_region_held_drew (S := (fun W => Below wc.heap.size wc W)) (by kernel_rfl) ?_ (fun hHeld => ?_)
                          · exact (Below.refl _ _).drew
                          generalize World.drew wc = Wd at *
                          refine wpAnyH_take (i := 0) (oi := ?oiq1) (v := ?vq1) ?hiq1 (by kernel_rfl) (by kernel_rfl) (by kernel_rfl) ?hqq1 ?hyq1 hHeld ?restq1
                          case hiq1 => exact rfl
                          case hqq1 => exact fun _ _ _ h => h
                          case hyq1 =>
                            refine Or.inl ⟨by rfl, ?_⟩
                            intro w hSw
                            go_simp
                            (try with_reducible rfl)
                          try simp only [Act.put, List.getElem_toArray, List.getElem_cons_succ, List.getElem_cons_zero, List.setIfInBounds_toArray, List.set_cons_zero, List.set_cons_succ]
                          refine wpAnyH_take (i := 1) (oi := ?oiq2) (v := ?vq2) ?hiq2 (by kernel_rfl) (by kernel_rfl) (by kernel_rfl) ?hqq2 ?hyq2 hHeld ?restq2
                          case hiq2 => exact rfl
                          case hqq2 => exact fun _ _ _ h => h
                          case hyq2 =>
                            refine Or.inl ⟨by rfl, ?_⟩
                            intro w hSw
                            go_simp
                            (try with_reducible rfl)
                          try simp only [Act.put, List.getElem_toArray, List.getElem_cons_succ, List.getElem_cons_zero, List.setIfInBounds_toArray, List.set_cons_zero, List.set_cons_succ]
                          refine wpAnyH_take (i := 2) (oi := ?oiq3) (v := ?vq3) ?hiq3 (by kernel_rfl) (by kernel_rfl) (by kernel_rfl) ?hqq3 ?hyq3 hHeld ?restq3
                          case hiq3 => exact rfl
                          case hqq3 => exact fun _ _ _ h => h
                          case hyq3 =>
                            refine Or.inl ⟨by rfl, ?_⟩
                            intro w hSw
                            go_simp
                            (try with_reducible rfl)
                          try simp only [Act.put, List.getElem_toArray, List.getElem_cons_succ, List.getElem_cons_zero, List.setIfInBounds_toArray, List.set_cons_zero, List.set_cons_succ]
                          refine wpAnyH_take (i := 3) (oi := ?oiq4) (v := ?vq4) ?hiq4 (by kernel_rfl) (by kernel_rfl) (by kernel_rfl) ?hqq4 ?hyq4 hHeld ?restq4
                          case hiq4 => exact rfl
                          case hqq4 => exact fun _ _ _ h => h
                          case hyq4 =>
                            refine Or.inl ⟨by rfl, ?_⟩
                            intro w hSw
                            go_simp
                            (try with_reducible rfl)
                          try simp only [Act.put, List.getElem_toArray, List.getElem_cons_succ, List.getElem_cons_zero, List.setIfInBounds_toArray, List.set_cons_zero, List.set_cons_succ]
                          refine wpAnyH_take (i := 4) (oi := ?oiq5) (v := (.slice (some ⟨tb, toff, none⟩) (Z k).length k1)) ?hiq5 (by kernel_rfl) (by kernel_rfl) (by kernel_rfl) ?hqq5 ?hyq5 hHeld ?restq5
                          case hiq5 => exact rfl
                          case hqq5 => exact fun _ _ _ h => h
                          case hyq5 =>
                            refine Or.inl ⟨by rfl, ?_⟩
                            intro w hSw
                            have y0 := (hSw.cell (p := ⟨gn, k, none⟩) (Nat.lt_of_lt_of_le hgn hBW)).trans z1
                            go_simp
                            (try with_reducible rfl)
                          try simp only [Act.put, List.getElem_toArray, List.getElem_cons_succ, List.getElem_cons_zero, List.setIfInBounds_toArray, List.set_cons_zero, List.set_cons_succ]
                          refine wpAnyH_take (i := 5) (oi := ?oiq6) (v := ?vq6) ?hiq6 (by kernel_rfl) (by kernel_rfl) (by kernel_rfl) ?hqq6 ?hyq6 hHeld ?restq6
                          case hiq6 => exact rfl
                          case hqq6 => exact fun _ _ _ h => h
                          case hyq6 =>
                            refine Or.inl ⟨by rfl, ?_⟩
                            intro w hSw
                            go_simp
                            (try with_reducible rfl)
                          try simp only [Act.put, List.getElem_toArray, List.getElem_cons_succ, List.getElem_cons_zero, List.setIfInBounds_toArray, List.set_cons_zero, List.set_cons_succ]
                          refine wpAnyH_take (i := 6) (oi := ?oiq7) (v := ?vq7) ?hiq7 (by kernel_rfl) (by kernel_rfl) (by kernel_rfl) ?hqq7 ?hyq7 hHeld ?restq7
                          case hiq7 => exact rfl
                          case hqq7 => exact fun _ _ _ h => h
                          case hyq7 =>
                            refine Or.inl ⟨by rfl, ?_⟩
                            intro w hSw
                            go_simp
                            (try with_reducible rfl)
                          try simp only [Act.put, List.getElem_toArray, List.getElem_cons_succ, List.getElem_cons_zero, List.setIfInBounds_toArray, List.set_cons_zero, List.set_cons_succ]
                          refine wpAnyH_take (i := 7) (oi := ?oiq8) (v := ?vq8) ?hiq8 (by kernel_rfl) (by kernel_rfl) (by kernel_rfl) ?hqq8 ?hyq8 hHeld ?restq8
                          case hiq8 => exact rfl
                          case hqq8 => exact fun _ _ _ h => h
                          case hyq8 =>
                            refine Or.inl ⟨by rfl, ?_⟩
                            intro w hSw
                            have y0 := (hSw.cell (p := ⟨tb, _, none⟩) (Nat.lt_of_lt_of_le hl_tb hBW)).trans f0
                            have y1 := (hSw.cell (p := ⟨tb, _, none⟩) (Nat.lt_of_lt_of_le hl_tb hBW)).trans f1
                            have y2 := (hSw.cell (p := ⟨tb, _, none⟩) (Nat.lt_of_lt_of_le hl_tb hBW)).trans f2
                            have y3 := (hSw.cell (p := ⟨tb, _, none⟩) (Nat.lt_of_lt_of_le hl_tb hBW)).trans f3
                            go_simp
                            (try with_reducible rfl)
                          try simp only [Act.put, List.getElem_toArray, List.getElem_cons_succ, List.getElem_cons_zero, List.setIfInBounds_toArray, List.set_cons_zero, List.set_cons_succ]
                          refine wpAnyH_take (i := 8) (oi := ?oiq9) (v := ?vq9) ?hiq9 (by kernel_rfl) (by kernel_rfl) (by kernel_rfl) ?hqq9 ?hyq9 hHeld ?restq9
                          case hiq9 => exact rfl
                          case hqq9 => exact fun _ _ _ h => h
                          case hyq9 =>
                            refine Or.inl ⟨by rfl, ?_⟩
                            intro w hSw
                            go_simp
                            (try with_reducible rfl)
                          try simp only [Act.put, List.getElem_toArray, List.getElem_cons_succ, List.getElem_cons_zero, List.setIfInBounds_toArray, List.set_cons_zero, List.set_cons_succ]
                          refine wpAnyH_take (i := 9) (oi := ?oiq10) (v := ?vq10) ?hiq10 (by kernel_rfl) (by kernel_rfl) (by kernel_rfl) ?hqq10 ?hyq10 hHeld ?restq10
                          case hiq10 => exact rfl
                          case hqq10 => exact fun _ _ _ h => h
                          case hyq10 =>
                            refine Or.inl ⟨by rfl, ?_⟩
                            intro w hSw
                            go_simp
                            (try with_reducible rfl)
                          try simp only [Act.put, List.getElem_toArray, List.getElem_cons_succ, List.getElem_cons_zero, List.setIfInBounds_toArray, List.set_cons_zero, List.set_cons_succ]
                          refine wpAnyH_take (i := 10) (oi := ?oiq11) (v := ?vq11) ?hiq11 (by kernel_rfl) (by kernel_rfl) (by kernel_rfl) ?hqq11 ?hyq11 hHeld ?restq11
                          case hiq11 => exact rfl
                          case hqq11 => exact fun _ _ _ h => h
                          case hyq11 =>
                            refine Or.inl ⟨by rfl, ?_⟩
                            intro w hSw
                            go_simp
                            (try with_reducible rfl)
                          try simp only [Act.put, List.getElem_toArray, List.getElem_cons_succ, List.getElem_cons_zero, List.setIfInBounds_toArray, List.set_cons_zero, List.set_cons_succ]
                          refine wpAnyH_take (i := 11) (oi := ?oiq12) (v := ?vq12) ?hiq12 (by kernel_rfl) (by kernel_rfl) (by kernel_rfl) ?hqq12 ?hyq12 hHeld ?restq12
                          case hiq12 => exact rfl
                          case hqq12 => exact fun _ _ _ h => h
                          case hyq12 =>
                            refine Or.inl ⟨by rfl, ?_⟩
                            intro w hSw
                            go_simp
                            (try with_reducible rfl)
                          try simp only [Act.put, List.getElem_toArray, List.getElem_cons_succ, List.getElem_cons_zero, List.setIfInBounds_toArray, List.set_cons_zero, List.set_cons_succ]
                          refine wpAnyH_take (i := 12) (oi := ?oiq13) (v := ?vq13) ?hiq13 (by kernel_rfl) (by kernel_rfl) (by kernel_rfl) ?hqq13 ?hyq13 hHeld ?restq13
                          case hiq13 => exact rfl
                          case hqq13 => exact fun _ _ _ h => h
                          case hyq13 =>
                            refine Or.inl ⟨by rfl, ?_⟩
                            intro w hSw
                            go_simp
                            (try with_reducible rfl)
                          try simp only [Act.put, List.getElem_toArray, List.getElem_cons_succ, List.getElem_cons_zero, List.setIfInBounds_toArray, List.set_cons_zero, List.set_cons_succ]
                          refine wpAnyH_take (i := 13) (oi := ?oiq14) (v := (.slice (some ⟨tb2, toff2, none⟩) (Z m).length k2)) ?hiq14 (by kernel_rfl) (by kernel_rfl) (by kernel_rfl) ?hqq14 ?hyq14 hHeld ?restq14
                          case hiq14 => exact rfl
                          case hqq14 => exact fun _ _ _ h => h
                          case hyq14 =>
                            refine Or.inl ⟨by rfl, ?_⟩
                            intro w hSw
                            have y0 := (hSw.cell (p := ⟨gn, m, none⟩) (Nat.lt_of_lt_of_le hgn hBW)).trans z2
                            go_simp
                            (try with_reducible rfl)
                          try simp only [Act.put, List.getElem_toArray, List.getElem_cons_succ, List.getElem_cons_zero, List.setIfInBounds_toArray, List.set_cons_zero, List.set_cons_succ]
                          refine wpAnyH_take (i := 14) (oi := ?oiq15) (v := ?vq15) ?hiq15 (by kernel_rfl) (by kernel_rfl) (by kernel_rfl) ?hqq15 ?hyq15 hHeld ?restq15
                          case hiq15 => exact rfl
                          case hqq15 => exact fun _ _ _ h => h
                          case hyq15 =>
                            refine Or.inl ⟨by rfl, ?_⟩
                            intro w hSw
                            go_simp
                            (try with_reducible rfl)
                          try simp only [Act.put, List.getElem_toArray, List.getElem_cons_succ, List.getElem_cons_zero, List.setIfInBounds_toArray, List.set_cons_zero, List.set_cons_succ]
                          refine wpAnyH_take (i := 15) (oi := ?oiq16) (v := ?vq16) ?hiq16 (by kernel_rfl) (by kernel_rfl) (by kernel_rfl) ?hqq16 ?hyq16 hHeld ?restq16
                          case hiq16 => exact rfl
                          case hqq16 => exact fun _ _ _ h => h
                          case hyq16 =>
                            refine Or.inl ⟨by rfl, ?_⟩
                            intro w hSw
                            go_simp
                            (try with_reducible rfl)
                          try simp only [Act.put, List.getElem_toArray, List.getElem_cons_succ, List.getElem_cons_zero, List.setIfInBounds_toArray, List.set_cons_zero, List.set_cons_succ]
                          refine wpAnyH_take (i := 16) (oi := ?oiq17) (v := ?vq17) ?hiq17 (by kernel_rfl) (by kernel_rfl) (by kernel_rfl) ?hqq17 ?hyq17 hHeld ?restq17
                          case hiq17 => exact rfl
                          case hqq17 => exact fun _ _ _ h => h
                          case hyq17 =>
                            refine Or.inl ⟨by rfl, ?_⟩
                            intro w hSw
                            have y0 := (hSw.cell (p := ⟨tb2, _, none⟩) (Nat.lt_of_lt_of_le hl_tb2 hBW)).trans g0
                            have y1 := (hSw.cell (p := ⟨tb2, _, none⟩) (Nat.lt_of_lt_of_le hl_tb2 hBW)).trans g1
                            have y2 := (hSw.cell (p := ⟨tb2, _, none⟩) (Nat.lt_of_lt_of_le hl_tb2 hBW)).trans g2
                            have y3 := (hSw.cell (p := ⟨tb2, _, none⟩) (Nat.lt_of_lt_of_le hl_tb2 hBW)).trans g3
                            go_simp
                            (try with_reducible rfl)
                          try simp only [Act.put, List.getElem_toArray, List.getElem_cons_succ, List.getElem_cons_zero, List.setIfInBounds_toArray, List.set_cons_zero, List.set_cons_succ]
                          refine wpAnyH_take (i := 17) (oi := ?oiq18) (v := ?vq18) ?hiq18 (by kernel_rfl) (by kernel_rfl) (by kernel_rfl) ?hqq18 ?hyq18 hHeld ?restq18
                          case hiq18 => exact rfl
                          case hqq18 => exact fun _ _ _ h => h
                          case hyq18 =>
                            refine Or.inl ⟨by rfl, ?_⟩
                            intro w hSw
                            go_simp
                            (try with_reducible rfl)
                          try simp only [Act.put, List.getElem_toArray, List.getElem_cons_succ, List.getElem_cons_zero, List.setIfInBounds_toArray, List.set_cons_zero, List.set_cons_succ]
                          refine wpAnyH_ready (rs := [18]) (by kernel_rfl) (by simp) ?_
                          refine AllReadyH.cons (o := ?or20_18) ?hr20_18 ?kr20_18 AllReadyH.nil
                          case hr20_18 => exact rfl
                          intro K hK
                          go_simp
                          have HE2 := Lib.hid (show EditsAt (Wd.alloc (.cells #[.int .i64 (k : Int), .int .i64 x.op, .int .i64 x.to, .int .i64 x.a, .int .i64 x.b, .int .i64 (m : Int), .int .i64 y.op, .int .i64 y.to, .int .i64 y.a, .int .i64 y.b] 49)) (some ⟨Wd.heap.size, 0, none⟩) (pE ((⟨(k : Int), x⟩ : E), (⟨(m : Int), y⟩ : E))) from edit2_at Wd 49 (⟨(k : Int), x⟩, ⟨(m : Int), y⟩))
                          refine hK.out _ _ (hHeld.alloc hHeld.size (.cells #[.int .i64 (k : Int), .int .i64 x.op, .int .i64 x.to, .int .i64 x.a, .int .i64 x.b, .int .i64 (m : Int), .int .i64 y.op, .int .i64 y.to, .int .i64 y.a, .int .i64 y.b] 49)) (fun hHeld => ?_)
                          clear hK K
                          try simp only [Act.put, List.getElem_toArray, List.getElem_cons_succ, List.getElem_cons_zero, List.setIfInBounds_toArray, List.set_cons_zero, List.set_cons_succ]
                          refine wpAnyH_take (i := 19) (oi := ?oiq19) (v := ?vq19) ?hiq19 (by kernel_rfl) (by kernel_rfl) (by kernel_rfl) ?hqq19 ?hyq19 hHeld ?restq19
                          case hiq19 => exact rfl
                          case hqq19 => exact fun _ _ _ h => h
                          case hyq19 =>
                            refine Or.inl ⟨by rfl, ?_⟩
                            intro w hSw
                            go_simp
                            (try with_reducible rfl)
                          try simp only [Act.put, List.getElem_toArray, List.getElem_cons_succ, List.getElem_cons_zero, List.setIfInBounds_toArray, List.set_cons_zero, List.set_cons_succ]
                          have HBX := Lib.hid hHeld
                          refine wpAnyH_done (by kernel_rfl) ?_ _
                          clear hHeld
                          generalize hWG : Wd.alloc _ = WG at *
                          generalize hBK : Wd.heap.size = BK at *
                          clear hWG hBK
                          have HU := Lib.hid (HU.out.below HBX.out)
                          have HB := Lib.hid (HB.out.trans (HBX.out.mono HB.out.size))
                          clear z1 z2 f0 f1 f2 f3 g0 g1 g2 g3 hBW HBX
                          go_wp2_with fail
                          refine (HG1.out _ _ (HPW.out.below HB.out (Nat.le_refl _)) HE2.out (HTW.out.below HB.out (Nat.le_refl _))).mono ?_
                          rintro e w7 ⟨rfl, hB7⟩
                          have HU := Lib.hid (HU.out.below hB7)
                          have HE2 := Lib.hid (HE2.out.below hB7 (Nat.le_refl _))
                          have HB := Lib.hid (HB.out.trans (hB7.mono HB.out.size))
                          clear hB7
                          go_wp2_with fail
                          go_roundw
                          case rel => exact ⟨q + 1, _, by omega, rfl, by rw [HO.out] <;> rfl, by go_num, by rw [HO.out]; exact HU.out, HB.out⟩
                          case measure => simp [intOf]; omega
                        | true =>
                          have HO := Lib.hid (show d4 k j m (q + 1) = (some ((⟨(k : Int), x⟩, ⟨(m : Int), y⟩), sp)) by rw [HN.out]; rw [hgd, HSPP.out]; rfl)
                          rw [hgd] at HG1
                          clear hgd HN
                          have z1 := (HB.out.cell (p := ⟨gn, k, none⟩) hgn).trans HZ1.out
                          have z2 := (HB.out.cell (p := ⟨gn, m, none⟩) hgn).trans HZ2.out
                          obtain ⟨d00, d10, d20, d30⟩ := HD1.out
                          obtain ⟨g00, g10, g20, g30⟩ := HD2.out
                          have hBW := HB.out.size
                          have f0 := (HB.out.cell (p := ⟨tb, _, none⟩) hl_tb).trans d00
                          have f1 := (HB.out.cell (p := ⟨tb, _, none⟩) hl_tb).trans d10
                          have f2 := (HB.out.cell (p := ⟨tb, _, none⟩) hl_tb).trans d20
                          have f3 := (HB.out.cell (p := ⟨tb, _, none⟩) hl_tb).trans d30
                          have g0 := (HB.out.cell (p := ⟨tb2, _, none⟩) hl_tb2).trans g00
                          have g1 := (HB.out.cell (p := ⟨tb2, _, none⟩) hl_tb2).trans g10
                          have g2 := (HB.out.cell (p := ⟨tb2, _, none⟩) hl_tb2).trans g20
                          have g3 := (HB.out.cell (p := ⟨tb2, _, none⟩) hl_tb2).trans g30
                          clear d00 d10 d20 d30 g00 g10 g20 g30
                          go_wp2_with fail
                          refine wp_region_held_drew (S := (fun W => Below wc.heap.size wc W)) (by kernel_rfl) ?_ (fun hHeld => ?_)
                          · exact (Below.refl _ _).drew
                          generalize World.drew wc = Wd at *
                          refine wpAnyH_take (i := 0) (oi := ?oiq21) (v := ?vq21) ?hiq21 (by kernel_rfl) (by kernel_rfl) (by kernel_rfl) ?hqq21 ?hyq21 hHeld ?restq21
                          case hiq21 => exact rfl
                          case hqq21 => exact fun _ _ _ h => h
                          case hyq21 =>
                            refine Or.inl ⟨by rfl, ?_⟩
                            intro w hSw
                            go_simp
                            (try with_reducible rfl)
                          try simp only [Act.put, List.getElem_toArray, List.getElem_cons_succ, List.getElem_cons_zero, List.setIfInBounds_toArray, List.set_cons_zero, List.set_cons_succ]
                          refine wpAnyH_take (i := 1) (oi := ?oiq22) (v := ?vq22) ?hiq22 (by kernel_rfl) (by kernel_rfl) (by kernel_rfl) ?hqq22 ?hyq22 hHeld ?restq22
                          case hiq22 => exact rfl
                          case hqq22 => exact fun _ _ _ h => h
                          case hyq22 =>
                            refine Or.inl ⟨by rfl, ?_⟩
                            intro w hSw
                            go_simp
                            (try with_reducible rfl)
                          try simp only [Act.put, List.getElem_toArray, List.getElem_cons_succ, List.getElem_cons_zero, List.setIfInBounds_toArray, List.set_cons_zero, List.set_cons_succ]
                          refine wpAnyH_take (i := 2) (oi := ?oiq23) (v := ?vq23) ?hiq23 (by kernel_rfl) (by kernel_rfl) (by kernel_rfl) ?hqq23 ?hyq23 hHeld ?restq23
                          case hiq23 => exact rfl
                          case hqq23 => exact fun _ _ _ h => h
                          case hyq23 =>
                            refine Or.inl ⟨by rfl, ?_⟩
                            intro w hSw
                            go_simp
                            (try with_reducible rfl)
                          try simp only [Act.put, List.getElem_toArray, List.getElem_cons_succ, List.getElem_cons_zero, List.setIfInBounds_toArray, List.set_cons_zero, List.set_cons_succ]
                          refine wpAnyH_take (i := 3) (oi := ?oiq24) (v := ?vq24) ?hiq24 (by kernel_rfl) (by kernel_rfl) (by kernel_rfl) ?hqq24 ?hyq24 hHeld ?restq24
                          case hiq24 => exact rfl
                          case hqq24 => exact fun _ _ _ h => h
                          case hyq24 =>
                            refine Or.inl ⟨by rfl, ?_⟩
                            intro w hSw
                            go_simp
                            (try with_reducible rfl)
                          try simp only [Act.put, List.getElem_toArray, List.getElem_cons_succ, List.getElem_cons_zero, List.setIfInBounds_toArray, List.set_cons_zero, List.set_cons_succ]
                          refine wpAnyH_take (i := 4) (oi := ?oiq25) (v := (.slice (some ⟨tb, toff, none⟩) (Z k).length k1)) ?hiq25 (by kernel_rfl) (by kernel_rfl) (by kernel_rfl) ?hqq25 ?hyq25 hHeld ?restq25
                          case hiq25 => exact rfl
                          case hqq25 => exact fun _ _ _ h => h
                          case hyq25 =>
                            refine Or.inl ⟨by rfl, ?_⟩
                            intro w hSw
                            have y0 := (hSw.cell (p := ⟨gn, k, none⟩) (Nat.lt_of_lt_of_le hgn hBW)).trans z1
                            go_simp
                            (try with_reducible rfl)
                          try simp only [Act.put, List.getElem_toArray, List.getElem_cons_succ, List.getElem_cons_zero, List.setIfInBounds_toArray, List.set_cons_zero, List.set_cons_succ]
                          refine wpAnyH_take (i := 5) (oi := ?oiq26) (v := ?vq26) ?hiq26 (by kernel_rfl) (by kernel_rfl) (by kernel_rfl) ?hqq26 ?hyq26 hHeld ?restq26
                          case hiq26 => exact rfl
                          case hqq26 => exact fun _ _ _ h => h
                          case hyq26 =>
                            refine Or.inl ⟨by rfl, ?_⟩
                            intro w hSw
                            go_simp
                            (try with_reducible rfl)
                          try simp only [Act.put, List.getElem_toArray, List.getElem_cons_succ, List.getElem_cons_zero, List.setIfInBounds_toArray, List.set_cons_zero, List.set_cons_succ]
                          refine wpAnyH_take (i := 6) (oi := ?oiq27) (v := ?vq27) ?hiq27 (by kernel_rfl) (by kernel_rfl) (by kernel_rfl) ?hqq27 ?hyq27 hHeld ?restq27
                          case hiq27 => exact rfl
                          case hqq27 => exact fun _ _ _ h => h
                          case hyq27 =>
                            refine Or.inl ⟨by rfl, ?_⟩
                            intro w hSw
                            go_simp
                            (try with_reducible rfl)
                          try simp only [Act.put, List.getElem_toArray, List.getElem_cons_succ, List.getElem_cons_zero, List.setIfInBounds_toArray, List.set_cons_zero, List.set_cons_succ]
                          refine wpAnyH_take (i := 7) (oi := ?oiq28) (v := ?vq28) ?hiq28 (by kernel_rfl) (by kernel_rfl) (by kernel_rfl) ?hqq28 ?hyq28 hHeld ?restq28
                          case hiq28 => exact rfl
                          case hqq28 => exact fun _ _ _ h => h
                          case hyq28 =>
                            refine Or.inl ⟨by rfl, ?_⟩
                            intro w hSw
                            have y0 := (hSw.cell (p := ⟨tb, _, none⟩) (Nat.lt_of_lt_of_le hl_tb hBW)).trans f0
                            have y1 := (hSw.cell (p := ⟨tb, _, none⟩) (Nat.lt_of_lt_of_le hl_tb hBW)).trans f1
                            have y2 := (hSw.cell (p := ⟨tb, _, none⟩) (Nat.lt_of_lt_of_le hl_tb hBW)).trans f2
                            have y3 := (hSw.cell (p := ⟨tb, _, none⟩) (Nat.lt_of_lt_of_le hl_tb hBW)).trans f3
                            go_simp
                            (try with_reducible rfl)
                          try simp only [Act.put, List.getElem_toArray, List.getElem_cons_succ, List.getElem_cons_zero, List.setIfInBounds_toArray, List.set_cons_zero, List.set_cons_succ]
                          refine wpAnyH_take (i := 8) (oi := ?oiq29) (v := ?vq29) ?hiq29 (by kernel_rfl) (by kernel_rfl) (by kernel_rfl) ?hqq29 ?hyq29 hHeld ?restq29
                          case hiq29 => exact rfl
                          case hqq29 => exact fun _ _ _ h => h
                          case hyq29 =>
                            refine Or.inl ⟨by rfl, ?_⟩
                            intro w hSw
                            go_simp
                            (try with_reducible rfl)
                          try simp only [Act.put, List.getElem_toArray, List.getElem_cons_succ, List.getElem_cons_zero, List.setIfInBounds_toArray, List.set_cons_zero, List.set_cons_succ]
                          refine wpAnyH_take (i := 9) (oi := ?oiq30) (v := ?vq30) ?hiq30 (by kernel_rfl) (by kernel_rfl) (by kernel_rfl) ?hqq30 ?hyq30 hHeld ?restq30
                          case hiq30 => exact rfl
                          case hqq30 => exact fun _ _ _ h => h
                          case hyq30 =>
                            refine Or.inl ⟨by rfl, ?_⟩
                            intro w hSw
                            go_simp
                            (try with_reducible rfl)
                          try simp only [Act.put, List.getElem_toArray, List.getElem_cons_succ, List.getElem_cons_zero, List.setIfInBounds_toArray, List.set_cons_zero, List.set_cons_succ]
                          refine wpAnyH_take (i := 10) (oi := ?oiq31) (v := ?vq31) ?hiq31 (by kernel_rfl) (by kernel_rfl) (by kernel_rfl) ?hqq31 ?hyq31 hHeld ?restq31
                          case hiq31 => exact rfl
                          case hqq31 => exact fun _ _ _ h => h
                          case hyq31 =>
                            refine Or.inl ⟨by rfl, ?_⟩
                            intro w hSw
                            go_simp
                            (try with_reducible rfl)
                          try simp only [Act.put, List.getElem_toArray, List.getElem_cons_succ, List.getElem_cons_zero, List.setIfInBounds_toArray, List.set_cons_zero, List.set_cons_succ]
                          refine wpAnyH_take (i := 11) (oi := ?oiq32) (v := ?vq32) ?hiq32 (by kernel_rfl) (by kernel_rfl) (by kernel_rfl) ?hqq32 ?hyq32 hHeld ?restq32
                          case hiq32 => exact rfl
                          case hqq32 => exact fun _ _ _ h => h
                          case hyq32 =>
                            refine Or.inl ⟨by rfl, ?_⟩
                            intro w hSw
                            go_simp
                            (try with_reducible rfl)
                          try simp only [Act.put, List.getElem_toArray, List.getElem_cons_succ, List.getElem_cons_zero, List.setIfInBounds_toArray, List.set_cons_zero, List.set_cons_succ]
                          refine wpAnyH_take (i := 12) (oi := ?oiq33) (v := ?vq33) ?hiq33 (by kernel_rfl) (by kernel_rfl) (by kernel_rfl) ?hqq33 ?hyq33 hHeld ?restq33
                          case hiq33 => exact rfl
                          case hqq33 => exact fun _ _ _ h => h
                          case hyq33 =>
                            refine Or.inl ⟨by rfl, ?_⟩
                            intro w hSw
                            go_simp
                            (try with_reducible rfl)
                          try simp only [Act.put, List.getElem_toArray, List.getElem_cons_succ, List.getElem_cons_zero, List.setIfInBounds_toArray, List.set_cons_zero, List.set_cons_succ]
                          refine wpAnyH_take (i := 13) (oi := ?oiq34) (v := (.slice (some ⟨tb2, toff2, none⟩) (Z m).length k2)) ?hiq34 (by kernel_rfl) (by kernel_rfl) (by kernel_rfl) ?hqq34 ?hyq34 hHeld ?restq34
                          case hiq34 => exact rfl
                          case hqq34 => exact fun _ _ _ h => h
                          case hyq34 =>
                            refine Or.inl ⟨by rfl, ?_⟩
                            intro w hSw
                            have y0 := (hSw.cell (p := ⟨gn, m, none⟩) (Nat.lt_of_lt_of_le hgn hBW)).trans z2
                            go_simp
                            (try with_reducible rfl)
                          try simp only [Act.put, List.getElem_toArray, List.getElem_cons_succ, List.getElem_cons_zero, List.setIfInBounds_toArray, List.set_cons_zero, List.set_cons_succ]
                          refine wpAnyH_take (i := 14) (oi := ?oiq35) (v := ?vq35) ?hiq35 (by kernel_rfl) (by kernel_rfl) (by kernel_rfl) ?hqq35 ?hyq35 hHeld ?restq35
                          case hiq35 => exact rfl
                          case hqq35 => exact fun _ _ _ h => h
                          case hyq35 =>
                            refine Or.inl ⟨by rfl, ?_⟩
                            intro w hSw
                            go_simp
                            (try with_reducible rfl)
                          try simp only [Act.put, List.getElem_toArray, List.getElem_cons_succ, List.getElem_cons_zero, List.setIfInBounds_toArray, List.set_cons_zero, List.set_cons_succ]
                          refine wpAnyH_take (i := 15) (oi := ?oiq36) (v := ?vq36) ?hiq36 (by kernel_rfl) (by kernel_rfl) (by kernel_rfl) ?hqq36 ?hyq36 hHeld ?restq36
                          case hiq36 => exact rfl
                          case hqq36 => exact fun _ _ _ h => h
                          case hyq36 =>
                            refine Or.inl ⟨by rfl, ?_⟩
                            intro w hSw
                            go_simp
                            (try with_reducible rfl)
                          try simp only [Act.put, List.getElem_toArray, List.getElem_cons_succ, List.getElem_cons_zero, List.setIfInBounds_toArray, List.set_cons_zero, List.set_cons_succ]
                          refine wpAnyH_take (i := 16) (oi := ?oiq37) (v := ?vq37) ?hiq37 (by kernel_rfl) (by kernel_rfl) (by kernel_rfl) ?hqq37 ?hyq37 hHeld ?restq37
                          case hiq37 => exact rfl
                          case hqq37 => exact fun _ _ _ h => h
                          case hyq37 =>
                            refine Or.inl ⟨by rfl, ?_⟩
                            intro w hSw
                            have y0 := (hSw.cell (p := ⟨tb2, _, none⟩) (Nat.lt_of_lt_of_le hl_tb2 hBW)).trans g0
                            have y1 := (hSw.cell (p := ⟨tb2, _, none⟩) (Nat.lt_of_lt_of_le hl_tb2 hBW)).trans g1
                            have y2 := (hSw.cell (p := ⟨tb2, _, none⟩) (Nat.lt_of_lt_of_le hl_tb2 hBW)).trans g2
                            have y3 := (hSw.cell (p := ⟨tb2, _, none⟩) (Nat.lt_of_lt_of_le hl_tb2 hBW)).trans g3
                            go_simp
                            (try with_reducible rfl)
                          try simp only [Act.put, List.getElem_toArray, List.getElem_cons_succ, List.getElem_cons_zero, List.setIfInBounds_toArray, List.set_cons_zero, List.set_cons_succ]
                          refine wpAnyH_take (i := 17) (oi := ?oiq38) (v := ?vq38) ?hiq38 (by kernel_rfl) (by kernel_rfl) (by kernel_rfl) ?hqq38 ?hyq38 hHeld ?restq38
                          case hiq38 => exact rfl
                          case hqq38 => exact fun _ _ _ h => h
                          case hyq38 =>
                            refine Or.inl ⟨by rfl, ?_⟩
                            intro w hSw
                            go_simp
                            (try with_reducible rfl)
                          try simp only [Act.put, List.getElem_toArray, List.getElem_cons_succ, List.getElem_cons_zero, List.setIfInBounds_toArray, List.set_cons_zero, List.set_cons_succ]
                          refine wpAnyH_ready (rs := [18]) (by kernel_rfl) (by simp) ?_
                          refine AllReadyH.cons (o := ?or40_18) ?hr40_18 ?kr40_18 AllReadyH.nil
                          case hr40_18 => exact rfl
                          intro K hK
                          go_simp
                          have HE2 := Lib.hid (show EditsAt (Wd.alloc (.cells #[.int .i64 (k : Int), .int .i64 x.op, .int .i64 x.to, .int .i64 x.a, .int .i64 x.b, .int .i64 (m : Int), .int .i64 y.op, .int .i64 y.to, .int .i64 y.a, .int .i64 y.b] 49)) (some ⟨Wd.heap.size, 0, none⟩) (pE ((⟨(k : Int), x⟩ : E), (⟨(m : Int), y⟩ : E))) from edit2_at Wd 49 (⟨(k : Int), x⟩, ⟨(m : Int), y⟩))
                          refine hK.out _ _ (hHeld.alloc hHeld.size (.cells #[.int .i64 (k : Int), .int .i64 x.op, .int .i64 x.to, .int .i64 x.a, .int .i64 x.b, .int .i64 (m : Int), .int .i64 y.op, .int .i64 y.to, .int .i64 y.a, .int .i64 y.b] 49)) (fun hHeld => ?_)
                          clear hK K
                          try simp only [Act.put, List.getElem_toArray, List.getElem_cons_succ, List.getElem_cons_zero, List.setIfInBounds_toArray, List.set_cons_zero, List.set_cons_succ]
                          refine wpAnyH_take (i := 19) (oi := ?oiq39) (v := ?vq39) ?hiq39 (by kernel_rfl) (by kernel_rfl) (by kernel_rfl) ?hqq39 ?hyq39 hHeld ?restq39
                          case hiq39 => exact rfl
                          case hqq39 => exact fun _ _ _ h => h
                          case hyq39 =>
                            refine Or.inl ⟨by rfl, ?_⟩
                            intro w hSw
                            go_simp
                            (try with_reducible rfl)
                          try simp only [Act.put, List.getElem_toArray, List.getElem_cons_succ, List.getElem_cons_zero, List.setIfInBounds_toArray, List.set_cons_zero, List.set_cons_succ]
                          have HBX := Lib.hid hHeld
                          refine wpAnyH_done (by kernel_rfl) ?_ _
                          clear hHeld
                          generalize hWG : Wd.alloc _ = WG at *
                          generalize hBK : Wd.heap.size = BK at *
                          clear hWG hBK
                          have HU := Lib.hid (HU.out.below HBX.out)
                          have HB := Lib.hid (HB.out.trans (HBX.out.mono HB.out.size))
                          clear z1 z2 f0 f1 f2 f3 g0 g1 g2 g3 hBW HBX
                          go_wp2_with fail
                          refine (HG1.out _ _ (HPW.out.below HB.out (Nat.le_refl _)) HE2.out (HTW.out.below HB.out (Nat.le_refl _))).mono ?_
                          rintro e w7 ⟨rfl, hB7⟩
                          have HU := Lib.hid (HU.out.below hB7)
                          have HE2 := Lib.hid (HE2.out.below hB7 (Nat.le_refl _))
                          have HB := Lib.hid (HB.out.trans (hB7.mono HB.out.size))
                          clear hB7
                          go_wp2_with fail
                          go_roundw
                          case rel => exact ⟨q + 1, _, by omega, rfl, by rw [HO.out] <;> rfl, by go_num, by rw [HO.out]; exact ⟨_, _, rfl, HE2.out⟩, HB.out⟩
                          case measure => simp [intOf]; omega
                      | some ys =>
                        obtain ⟨yy, s⟩ := ys
                        have hs0 := HPO.out yy s rfl
                        have hs1 : decide (0 ≤ s) = true := decide_eq_true hs0
                        rw [show bestS (some (yy, s)) = s from rfl]
                        by_cases hle : s ≤ sp
                        · have hd : decide (s ≤ sp) = true := decide_eq_true hle
                          have HO := Lib.hid (show d4 k j m (q + 1) = some (yy, s) by rw [HN.out]; exact dmT_skip (by rw [HSPP.out]; exact hle))
                          clear hle HN
                          go_wp2_with fail
                          go_roundw
                          case rel => exact ⟨q + 1, _, by omega, rfl, by rw [HO.out] <;> rfl, by go_num, by rw [HO.out]; exact HU.out, HB.out⟩
                          case measure => simp [intOf]; omega
                        · have hd : decide (s ≤ sp) = false := decide_eq_false hle
                          cases hgd : gdB ps ts (pE ((⟨(k : Int), x⟩ : E), (⟨(m : Int), y⟩ : E))) with
                          | false =>
                            have HO := Lib.hid (show d4 k j m (q + 1) = (some (yy, s)) by rw [HN.out, dmT_less (by rw [HSPP.out]; exact hle)]; rw [hgd, HSPP.out]; rfl)
                            rw [hgd] at HG1
                            clear hgd HN
                            have z1 := (HB.out.cell (p := ⟨gn, k, none⟩) hgn).trans HZ1.out
                            have z2 := (HB.out.cell (p := ⟨gn, m, none⟩) hgn).trans HZ2.out
                            obtain ⟨d00, d10, d20, d30⟩ := HD1.out
                            obtain ⟨g00, g10, g20, g30⟩ := HD2.out
                            have hBW := HB.out.size
                            have f0 := (HB.out.cell (p := ⟨tb, _, none⟩) hl_tb).trans d00
                            have f1 := (HB.out.cell (p := ⟨tb, _, none⟩) hl_tb).trans d10
                            have f2 := (HB.out.cell (p := ⟨tb, _, none⟩) hl_tb).trans d20
                            have f3 := (HB.out.cell (p := ⟨tb, _, none⟩) hl_tb).trans d30
                            have g0 := (HB.out.cell (p := ⟨tb2, _, none⟩) hl_tb2).trans g00
                            have g1 := (HB.out.cell (p := ⟨tb2, _, none⟩) hl_tb2).trans g10
                            have g2 := (HB.out.cell (p := ⟨tb2, _, none⟩) hl_tb2).trans g20
                            have g3 := (HB.out.cell (p := ⟨tb2, _, none⟩) hl_tb2).trans g30
                            clear d00 d10 d20 d30 g00 g10 g20 g30
                            go_wp2_with fail
                            refine wp_region_held_drew (S := (fun W => Below wc.heap.size wc W)) (by kernel_rfl) ?_ (fun hHeld => ?_)
                            · exact (Below.refl _ _).drew
                            generalize World.drew wc = Wd at *
                            refine wpAnyH_take (i := 0) (oi := ?oiq41) (v := ?vq41) ?hiq41 (by kernel_rfl) (by kernel_rfl) (by kernel_rfl) ?hqq41 ?hyq41 hHeld ?restq41
                            case hiq41 => exact rfl
                            case hqq41 => exact fun _ _ _ h => h
                            case hyq41 =>
                              refine Or.inl ⟨by rfl, ?_⟩
                              intro w hSw
                              go_simp
                              (try with_reducible rfl)
                            try simp only [Act.put, List.getElem_toArray, List.getElem_cons_succ, List.getElem_cons_zero, List.setIfInBounds_toArray, List.set_cons_zero, List.set_cons_succ]
                            refine wpAnyH_take (i := 1) (oi := ?oiq42) (v := ?vq42) ?hiq42 (by kernel_rfl) (by kernel_rfl) (by kernel_rfl) ?hqq42 ?hyq42 hHeld ?restq42
                            case hiq42 => exact rfl
                            case hqq42 => exact fun _ _ _ h => h
                            case hyq42 =>
                              refine Or.inl ⟨by rfl, ?_⟩
                              intro w hSw
                              go_simp
                              (try with_reducible rfl)
                            try simp only [Act.put, List.getElem_toArray, List.getElem_cons_succ, List.getElem_cons_zero, List.setIfInBounds_toArray, List.set_cons_zero, List.set_cons_succ]
                            refine wpAnyH_take (i := 2) (oi := ?oiq43) (v := ?vq43) ?hiq43 (by kernel_rfl) (by kernel_rfl) (by kernel_rfl) ?hqq43 ?hyq43 hHeld ?restq43
                            case hiq43 => exact rfl
                            case hqq43 => exact fun _ _ _ h => h
                            case hyq43 =>
                              refine Or.inl ⟨by rfl, ?_⟩
                              intro w hSw
                              go_simp
                              (try with_reducible rfl)
                            try simp only [Act.put, List.getElem_toArray, List.getElem_cons_succ, List.getElem_cons_zero, List.setIfInBounds_toArray, List.set_cons_zero, List.set_cons_succ]
                            refine wpAnyH_take (i := 3) (oi := ?oiq44) (v := ?vq44) ?hiq44 (by kernel_rfl) (by kernel_rfl) (by kernel_rfl) ?hqq44 ?hyq44 hHeld ?restq44
                            case hiq44 => exact rfl
                            case hqq44 => exact fun _ _ _ h => h
                            case hyq44 =>
                              refine Or.inl ⟨by rfl, ?_⟩
                              intro w hSw
                              go_simp
                              (try with_reducible rfl)
                            try simp only [Act.put, List.getElem_toArray, List.getElem_cons_succ, List.getElem_cons_zero, List.setIfInBounds_toArray, List.set_cons_zero, List.set_cons_succ]
                            refine wpAnyH_take (i := 4) (oi := ?oiq45) (v := (.slice (some ⟨tb, toff, none⟩) (Z k).length k1)) ?hiq45 (by kernel_rfl) (by kernel_rfl) (by kernel_rfl) ?hqq45 ?hyq45 hHeld ?restq45
                            case hiq45 => exact rfl
                            case hqq45 => exact fun _ _ _ h => h
                            case hyq45 =>
                              refine Or.inl ⟨by rfl, ?_⟩
                              intro w hSw
                              have y0 := (hSw.cell (p := ⟨gn, k, none⟩) (Nat.lt_of_lt_of_le hgn hBW)).trans z1
                              go_simp
                              (try with_reducible rfl)
                            try simp only [Act.put, List.getElem_toArray, List.getElem_cons_succ, List.getElem_cons_zero, List.setIfInBounds_toArray, List.set_cons_zero, List.set_cons_succ]
                            refine wpAnyH_take (i := 5) (oi := ?oiq46) (v := ?vq46) ?hiq46 (by kernel_rfl) (by kernel_rfl) (by kernel_rfl) ?hqq46 ?hyq46 hHeld ?restq46
                            case hiq46 => exact rfl
                            case hqq46 => exact fun _ _ _ h => h
                            case hyq46 =>
                              refine Or.inl ⟨by rfl, ?_⟩
                              intro w hSw
                              go_simp
                              (try with_reducible rfl)
                            try simp only [Act.put, List.getElem_toArray, List.getElem_cons_succ, List.getElem_cons_zero, List.setIfInBounds_toArray, List.set_cons_zero, List.set_cons_succ]
                            refine wpAnyH_take (i := 6) (oi := ?oiq47) (v := ?vq47) ?hiq47 (by kernel_rfl) (by kernel_rfl) (by kernel_rfl) ?hqq47 ?hyq47 hHeld ?restq47
                            case hiq47 => exact rfl
                            case hqq47 => exact fun _ _ _ h => h
                            case hyq47 =>
                              refine Or.inl ⟨by rfl, ?_⟩
                              intro w hSw
                              go_simp
                              (try with_reducible rfl)
                            try simp only [Act.put, List.getElem_toArray, List.getElem_cons_succ, List.getElem_cons_zero, List.setIfInBounds_toArray, List.set_cons_zero, List.set_cons_succ]
                            refine wpAnyH_take (i := 7) (oi := ?oiq48) (v := ?vq48) ?hiq48 (by kernel_rfl) (by kernel_rfl) (by kernel_rfl) ?hqq48 ?hyq48 hHeld ?restq48
                            case hiq48 => exact rfl
                            case hqq48 => exact fun _ _ _ h => h
                            case hyq48 =>
                              refine Or.inl ⟨by rfl, ?_⟩
                              intro w hSw
                              have y0 := (hSw.cell (p := ⟨tb, _, none⟩) (Nat.lt_of_lt_of_le hl_tb hBW)).trans f0
                              have y1 := (hSw.cell (p := ⟨tb, _, none⟩) (Nat.lt_of_lt_of_le hl_tb hBW)).trans f1
                              have y2 := (hSw.cell (p := ⟨tb, _, none⟩) (Nat.lt_of_lt_of_le hl_tb hBW)).trans f2
                              have y3 := (hSw.cell (p := ⟨tb, _, none⟩) (Nat.lt_of_lt_of_le hl_tb hBW)).trans f3
                              go_simp
                              (try with_reducible rfl)
                            try simp only [Act.put, List.getElem_toArray, List.getElem_cons_succ, List.getElem_cons_zero, List.setIfInBounds_toArray, List.set_cons_zero, List.set_cons_succ]
                            refine wpAnyH_take (i := 8) (oi := ?oiq49) (v := ?vq49) ?hiq49 (by kernel_rfl) (by kernel_rfl) (by kernel_rfl) ?hqq49 ?hyq49 hHeld ?restq49
                            case hiq49 => exact rfl
                            case hqq49 => exact fun _ _ _ h => h
                            case hyq49 =>
                              refine Or.inl ⟨by rfl, ?_⟩
                              intro w hSw
                              go_simp
                              (try with_reducible rfl)
                            try simp only [Act.put, List.getElem_toArray, List.getElem_cons_succ, List.getElem_cons_zero, List.setIfInBounds_toArray, List.set_cons_zero, List.set_cons_succ]
                            refine wpAnyH_take (i := 9) (oi := ?oiq50) (v := ?vq50) ?hiq50 (by kernel_rfl) (by kernel_rfl) (by kernel_rfl) ?hqq50 ?hyq50 hHeld ?restq50
                            case hiq50 => exact rfl
                            case hqq50 => exact fun _ _ _ h => h
                            case hyq50 =>
                              refine Or.inl ⟨by rfl, ?_⟩
                              intro w hSw
                              go_simp
                              (try with_reducible rfl)
                            try simp only [Act.put, List.getElem_toArray, List.getElem_cons_succ, List.getElem_cons_zero, List.setIfInBounds_toArray, List.set_cons_zero, List.set_cons_succ]
                            refine wpAnyH_take (i := 10) (oi := ?oiq51) (v := ?vq51) ?hiq51 (by kernel_rfl) (by kernel_rfl) (by kernel_rfl) ?hqq51 ?hyq51 hHeld ?restq51
                            case hiq51 => exact rfl
                            case hqq51 => exact fun _ _ _ h => h
                            case hyq51 =>
                              refine Or.inl ⟨by rfl, ?_⟩
                              intro w hSw
                              go_simp
                              (try with_reducible rfl)
                            try simp only [Act.put, List.getElem_toArray, List.getElem_cons_succ, List.getElem_cons_zero, List.setIfInBounds_toArray, List.set_cons_zero, List.set_cons_succ]
                            refine wpAnyH_take (i := 11) (oi := ?oiq52) (v := ?vq52) ?hiq52 (by kernel_rfl) (by kernel_rfl) (by kernel_rfl) ?hqq52 ?hyq52 hHeld ?restq52
                            case hiq52 => exact rfl
                            case hqq52 => exact fun _ _ _ h => h
                            case hyq52 =>
                              refine Or.inl ⟨by rfl, ?_⟩
                              intro w hSw
                              go_simp
                              (try with_reducible rfl)
                            try simp only [Act.put, List.getElem_toArray, List.getElem_cons_succ, List.getElem_cons_zero, List.setIfInBounds_toArray, List.set_cons_zero, List.set_cons_succ]
                            refine wpAnyH_take (i := 12) (oi := ?oiq53) (v := ?vq53) ?hiq53 (by kernel_rfl) (by kernel_rfl) (by kernel_rfl) ?hqq53 ?hyq53 hHeld ?restq53
                            case hiq53 => exact rfl
                            case hqq53 => exact fun _ _ _ h => h
                            case hyq53 =>
                              refine Or.inl ⟨by rfl, ?_⟩
                              intro w hSw
                              go_simp
                              (try with_reducible rfl)
                            try simp only [Act.put, List.getElem_toArray, List.getElem_cons_succ, List.getElem_cons_zero, List.setIfInBounds_toArray, List.set_cons_zero, List.set_cons_succ]
                            refine wpAnyH_take (i := 13) (oi := ?oiq54) (v := (.slice (some ⟨tb2, toff2, none⟩) (Z m).length k2)) ?hiq54 (by kernel_rfl) (by kernel_rfl) (by kernel_rfl) ?hqq54 ?hyq54 hHeld ?restq54
                            case hiq54 => exact rfl
                            case hqq54 => exact fun _ _ _ h => h
                            case hyq54 =>
                              refine Or.inl ⟨by rfl, ?_⟩
                              intro w hSw
                              have y0 := (hSw.cell (p := ⟨gn, m, none⟩) (Nat.lt_of_lt_of_le hgn hBW)).trans z2
                              go_simp
                              (try with_reducible rfl)
                            try simp only [Act.put, List.getElem_toArray, List.getElem_cons_succ, List.getElem_cons_zero, List.setIfInBounds_toArray, List.set_cons_zero, List.set_cons_succ]
                            refine wpAnyH_take (i := 14) (oi := ?oiq55) (v := ?vq55) ?hiq55 (by kernel_rfl) (by kernel_rfl) (by kernel_rfl) ?hqq55 ?hyq55 hHeld ?restq55
                            case hiq55 => exact rfl
                            case hqq55 => exact fun _ _ _ h => h
                            case hyq55 =>
                              refine Or.inl ⟨by rfl, ?_⟩
                              intro w hSw
                              go_simp
                              (try with_reducible rfl)
                            try simp only [Act.put, List.getElem_toArray, List.getElem_cons_succ, List.getElem_cons_zero, List.setIfInBounds_toArray, List.set_cons_zero, List.set_cons_succ]
                            refine wpAnyH_take (i := 15) (oi := ?oiq56) (v := ?vq56) ?hiq56 (by kernel_rfl) (by kernel_rfl) (by kernel_rfl) ?hqq56 ?hyq56 hHeld ?restq56
                            case hiq56 => exact rfl
                            case hqq56 => exact fun _ _ _ h => h
                            case hyq56 =>
                              refine Or.inl ⟨by rfl, ?_⟩
                              intro w hSw
                              go_simp
                              (try with_reducible rfl)
                            try simp only [Act.put, List.getElem_toArray, List.getElem_cons_succ, List.getElem_cons_zero, List.setIfInBounds_toArray, List.set_cons_zero, List.set_cons_succ]
                            refine wpAnyH_take (i := 16) (oi := ?oiq57) (v := ?vq57) ?hiq57 (by kernel_rfl) (by kernel_rfl) (by kernel_rfl) ?hqq57 ?hyq57 hHeld ?restq57
                            case hiq57 => exact rfl
                            case hqq57 => exact fun _ _ _ h => h
                            case hyq57 =>
                              refine Or.inl ⟨by rfl, ?_⟩
                              intro w hSw
                              have y0 := (hSw.cell (p := ⟨tb2, _, none⟩) (Nat.lt_of_lt_of_le hl_tb2 hBW)).trans g0
                              have y1 := (hSw.cell (p := ⟨tb2, _, none⟩) (Nat.lt_of_lt_of_le hl_tb2 hBW)).trans g1
                              have y2 := (hSw.cell (p := ⟨tb2, _, none⟩) (Nat.lt_of_lt_of_le hl_tb2 hBW)).trans g2
                              have y3 := (hSw.cell (p := ⟨tb2, _, none⟩) (Nat.lt_of_lt_of_le hl_tb2 hBW)).trans g3
                              go_simp
                              (try with_reducible rfl)
                            try simp only [Act.put, List.getElem_toArray, List.getElem_cons_succ, List.getElem_cons_zero, List.setIfInBounds_toArray, List.set_cons_zero, List.set_cons_succ]
                            refine wpAnyH_take (i := 17) (oi := ?oiq58) (v := ?vq58) ?hiq58 (by kernel_rfl) (by kernel_rfl) (by kernel_rfl) ?hqq58 ?hyq58 hHeld ?restq58
                            case hiq58 => exact rfl
                            case hqq58 => exact fun _ _ _ h => h
                            case hyq58 =>
                              refine Or.inl ⟨by rfl, ?_⟩
                              intro w hSw
                              go_simp
                              (try with_reducible rfl)
                            try simp only [Act.put, List.getElem_toArray, List.getElem_cons_succ, List.getElem_cons_zero, List.setIfInBounds_toArray, List.set_cons_zero, List.set_cons_succ]
                            refine wpAnyH_ready (rs := [18]) (by kernel_rfl) (by simp) ?_
                            refine AllReadyH.cons (o := ?or60_18) ?hr60_18 ?kr60_18 AllReadyH.nil
                            case hr60_18 => exact rfl
                            intro K hK
                            go_simp
                            have HE2 := Lib.hid (show EditsAt (Wd.alloc (.cells #[.int .i64 (k : Int), .int .i64 x.op, .int .i64 x.to, .int .i64 x.a, .int .i64 x.b, .int .i64 (m : Int), .int .i64 y.op, .int .i64 y.to, .int .i64 y.a, .int .i64 y.b] 49)) (some ⟨Wd.heap.size, 0, none⟩) (pE ((⟨(k : Int), x⟩ : E), (⟨(m : Int), y⟩ : E))) from edit2_at Wd 49 (⟨(k : Int), x⟩, ⟨(m : Int), y⟩))
                            refine hK.out _ _ (hHeld.alloc hHeld.size (.cells #[.int .i64 (k : Int), .int .i64 x.op, .int .i64 x.to, .int .i64 x.a, .int .i64 x.b, .int .i64 (m : Int), .int .i64 y.op, .int .i64 y.to, .int .i64 y.a, .int .i64 y.b] 49)) (fun hHeld => ?_)
                            clear hK K
                            try simp only [Act.put, List.getElem_toArray, List.getElem_cons_succ, List.getElem_cons_zero, List.setIfInBounds_toArray, List.set_cons_zero, List.set_cons_succ]
                            refine wpAnyH_take (i := 19) (oi := ?oiq59) (v := ?vq59) ?hiq59 (by kernel_rfl) (by kernel_rfl) (by kernel_rfl) ?hqq59 ?hyq59 hHeld ?restq59
                            case hiq59 => exact rfl
                            case hqq59 => exact fun _ _ _ h => h
                            case hyq59 =>
                              refine Or.inl ⟨by rfl, ?_⟩
                              intro w hSw
                              go_simp
                              (try with_reducible rfl)
                            try simp only [Act.put, List.getElem_toArray, List.getElem_cons_succ, List.getElem_cons_zero, List.setIfInBounds_toArray, List.set_cons_zero, List.set_cons_succ]
                            have HBX := Lib.hid hHeld
                            refine wpAnyH_done (by kernel_rfl) ?_ _
                            clear hHeld
                            generalize hWG : Wd.alloc _ = WG at *
                            generalize hBK : Wd.heap.size = BK at *
                            clear hWG hBK
                            have HU := Lib.hid (HU.out.below HBX.out)
                            have HB := Lib.hid (HB.out.trans (HBX.out.mono HB.out.size))
                            clear z1 z2 f0 f1 f2 f3 g0 g1 g2 g3 hBW HBX
                            go_wp2_with fail
                            refine (HG1.out _ _ (HPW.out.below HB.out (Nat.le_refl _)) HE2.out (HTW.out.below HB.out (Nat.le_refl _))).mono ?_
                            rintro e w7 ⟨rfl, hB7⟩
                            have HU := Lib.hid (HU.out.below hB7)
                            have HE2 := Lib.hid (HE2.out.below hB7 (Nat.le_refl _))
                            have HB := Lib.hid (HB.out.trans (hB7.mono HB.out.size))
                            clear hB7
                            go_wp2_with fail
                            go_roundw
                            case rel => exact ⟨q + 1, _, by omega, rfl, by rw [HO.out] <;> rfl, by go_num, by rw [HO.out]; exact HU.out, HB.out⟩
                            case measure => simp [intOf]; omega
                          | true =>
                            have HO := Lib.hid (show d4 k j m (q + 1) = (some ((⟨(k : Int), x⟩, ⟨(m : Int), y⟩), sp)) by rw [HN.out, dmT_less (by rw [HSPP.out]; exact hle)]; rw [hgd, HSPP.out]; rfl)
                            rw [hgd] at HG1
                            clear hgd HN
                            have z1 := (HB.out.cell (p := ⟨gn, k, none⟩) hgn).trans HZ1.out
                            have z2 := (HB.out.cell (p := ⟨gn, m, none⟩) hgn).trans HZ2.out
                            obtain ⟨d00, d10, d20, d30⟩ := HD1.out
                            obtain ⟨g00, g10, g20, g30⟩ := HD2.out
                            have hBW := HB.out.size
                            have f0 := (HB.out.cell (p := ⟨tb, _, none⟩) hl_tb).trans d00
                            have f1 := (HB.out.cell (p := ⟨tb, _, none⟩) hl_tb).trans d10
                            have f2 := (HB.out.cell (p := ⟨tb, _, none⟩) hl_tb).trans d20
                            have f3 := (HB.out.cell (p := ⟨tb, _, none⟩) hl_tb).trans d30
                            have g0 := (HB.out.cell (p := ⟨tb2, _, none⟩) hl_tb2).trans g00
                            have g1 := (HB.out.cell (p := ⟨tb2, _, none⟩) hl_tb2).trans g10
                            have g2 := (HB.out.cell (p := ⟨tb2, _, none⟩) hl_tb2).trans g20
                            have g3 := (HB.out.cell (p := ⟨tb2, _, none⟩) hl_tb2).trans g30
                            clear d00 d10 d20 d30 g00 g10 g20 g30
                            go_wp2_with fail
                            refine wp_region_held_drew (S := (fun W => Below wc.heap.size wc W)) (by kernel_rfl) ?_ (fun hHeld => ?_)
                            · exact (Below.refl _ _).drew
                            generalize World.drew wc = Wd at *
                            refine wpAnyH_take (i := 0) (oi := ?oiq61) (v := ?vq61) ?hiq61 (by kernel_rfl) (by kernel_rfl) (by kernel_rfl) ?hqq61 ?hyq61 hHeld ?restq61
                            case hiq61 => exact rfl
                            case hqq61 => exact fun _ _ _ h => h
                            case hyq61 =>
                              refine Or.inl ⟨by rfl, ?_⟩
                              intro w hSw
                              go_simp
                              (try with_reducible rfl)
                            try simp only [Act.put, List.getElem_toArray, List.getElem_cons_succ, List.getElem_cons_zero, List.setIfInBounds_toArray, List.set_cons_zero, List.set_cons_succ]
                            refine wpAnyH_take (i := 1) (oi := ?oiq62) (v := ?vq62) ?hiq62 (by kernel_rfl) (by kernel_rfl) (by kernel_rfl) ?hqq62 ?hyq62 hHeld ?restq62
                            case hiq62 => exact rfl
                            case hqq62 => exact fun _ _ _ h => h
                            case hyq62 =>
                              refine Or.inl ⟨by rfl, ?_⟩
                              intro w hSw
                              go_simp
                              (try with_reducible rfl)
                            try simp only [Act.put, List.getElem_toArray, List.getElem_cons_succ, List.getElem_cons_zero, List.setIfInBounds_toArray, List.set_cons_zero, List.set_cons_succ]
                            refine wpAnyH_take (i := 2) (oi := ?oiq63) (v := ?vq63) ?hiq63 (by kernel_rfl) (by kernel_rfl) (by kernel_rfl) ?hqq63 ?hyq63 hHeld ?restq63
                            case hiq63 => exact rfl
                            case hqq63 => exact fun _ _ _ h => h
                            case hyq63 =>
                              refine Or.inl ⟨by rfl, ?_⟩
                              intro w hSw
                              go_simp
                              (try with_reducible rfl)
                            try simp only [Act.put, List.getElem_toArray, List.getElem_cons_succ, List.getElem_cons_zero, List.setIfInBounds_toArray, List.set_cons_zero, List.set_cons_succ]
                            refine wpAnyH_take (i := 3) (oi := ?oiq64) (v := ?vq64) ?hiq64 (by kernel_rfl) (by kernel_rfl) (by kernel_rfl) ?hqq64 ?hyq64 hHeld ?restq64
                            case hiq64 => exact rfl
                            case hqq64 => exact fun _ _ _ h => h
                            case hyq64 =>
                              refine Or.inl ⟨by rfl, ?_⟩
                              intro w hSw
                              go_simp
                              (try with_reducible rfl)
                            try simp only [Act.put, List.getElem_toArray, List.getElem_cons_succ, List.getElem_cons_zero, List.setIfInBounds_toArray, List.set_cons_zero, List.set_cons_succ]
                            refine wpAnyH_take (i := 4) (oi := ?oiq65) (v := (.slice (some ⟨tb, toff, none⟩) (Z k).length k1)) ?hiq65 (by kernel_rfl) (by kernel_rfl) (by kernel_rfl) ?hqq65 ?hyq65 hHeld ?restq65
                            case hiq65 => exact rfl
                            case hqq65 => exact fun _ _ _ h => h
                            case hyq65 =>
                              refine Or.inl ⟨by rfl, ?_⟩
                              intro w hSw
                              have y0 := (hSw.cell (p := ⟨gn, k, none⟩) (Nat.lt_of_lt_of_le hgn hBW)).trans z1
                              go_simp
                              (try with_reducible rfl)
                            try simp only [Act.put, List.getElem_toArray, List.getElem_cons_succ, List.getElem_cons_zero, List.setIfInBounds_toArray, List.set_cons_zero, List.set_cons_succ]
                            refine wpAnyH_take (i := 5) (oi := ?oiq66) (v := ?vq66) ?hiq66 (by kernel_rfl) (by kernel_rfl) (by kernel_rfl) ?hqq66 ?hyq66 hHeld ?restq66
                            case hiq66 => exact rfl
                            case hqq66 => exact fun _ _ _ h => h
                            case hyq66 =>
                              refine Or.inl ⟨by rfl, ?_⟩
                              intro w hSw
                              go_simp
                              (try with_reducible rfl)
                            try simp only [Act.put, List.getElem_toArray, List.getElem_cons_succ, List.getElem_cons_zero, List.setIfInBounds_toArray, List.set_cons_zero, List.set_cons_succ]
                            refine wpAnyH_take (i := 6) (oi := ?oiq67) (v := ?vq67) ?hiq67 (by kernel_rfl) (by kernel_rfl) (by kernel_rfl) ?hqq67 ?hyq67 hHeld ?restq67
                            case hiq67 => exact rfl
                            case hqq67 => exact fun _ _ _ h => h
                            case hyq67 =>
                              refine Or.inl ⟨by rfl, ?_⟩
                              intro w hSw
                              go_simp
                              (try with_reducible rfl)
                            try simp only [Act.put, List.getElem_toArray, List.getElem_cons_succ, List.getElem_cons_zero, List.setIfInBounds_toArray, List.set_cons_zero, List.set_cons_succ]
                            refine wpAnyH_take (i := 7) (oi := ?oiq68) (v := ?vq68) ?hiq68 (by kernel_rfl) (by kernel_rfl) (by kernel_rfl) ?hqq68 ?hyq68 hHeld ?restq68
                            case hiq68 => exact rfl
                            case hqq68 => exact fun _ _ _ h => h
                            case hyq68 =>
                              refine Or.inl ⟨by rfl, ?_⟩
                              intro w hSw
                              have y0 := (hSw.cell (p := ⟨tb, _, none⟩) (Nat.lt_of_lt_of_le hl_tb hBW)).trans f0
                              have y1 := (hSw.cell (p := ⟨tb, _, none⟩) (Nat.lt_of_lt_of_le hl_tb hBW)).trans f1
                              have y2 := (hSw.cell (p := ⟨tb, _, none⟩) (Nat.lt_of_lt_of_le hl_tb hBW)).trans f2
                              have y3 := (hSw.cell (p := ⟨tb, _, none⟩) (Nat.lt_of_lt_of_le hl_tb hBW)).trans f3
                              go_simp
                              (try with_reducible rfl)
                            try simp only [Act.put, List.getElem_toArray, List.getElem_cons_succ, List.getElem_cons_zero, List.setIfInBounds_toArray, List.set_cons_zero, List.set_cons_succ]
                            refine wpAnyH_take (i := 8) (oi := ?oiq69) (v := ?vq69) ?hiq69 (by kernel_rfl) (by kernel_rfl) (by kernel_rfl) ?hqq69 ?hyq69 hHeld ?restq69
                            case hiq69 => exact rfl
                            case hqq69 => exact fun _ _ _ h => h
                            case hyq69 =>
                              refine Or.inl ⟨by rfl, ?_⟩
                              intro w hSw
                              go_simp
                              (try with_reducible rfl)
                            try simp only [Act.put, List.getElem_toArray, List.getElem_cons_succ, List.getElem_cons_zero, List.setIfInBounds_toArray, List.set_cons_zero, List.set_cons_succ]
                            refine wpAnyH_take (i := 9) (oi := ?oiq70) (v := ?vq70) ?hiq70 (by kernel_rfl) (by kernel_rfl) (by kernel_rfl) ?hqq70 ?hyq70 hHeld ?restq70
                            case hiq70 => exact rfl
                            case hqq70 => exact fun _ _ _ h => h
                            case hyq70 =>
                              refine Or.inl ⟨by rfl, ?_⟩
                              intro w hSw
                              go_simp
                              (try with_reducible rfl)
                            try simp only [Act.put, List.getElem_toArray, List.getElem_cons_succ, List.getElem_cons_zero, List.setIfInBounds_toArray, List.set_cons_zero, List.set_cons_succ]
                            refine wpAnyH_take (i := 10) (oi := ?oiq71) (v := ?vq71) ?hiq71 (by kernel_rfl) (by kernel_rfl) (by kernel_rfl) ?hqq71 ?hyq71 hHeld ?restq71
                            case hiq71 => exact rfl
                            case hqq71 => exact fun _ _ _ h => h
                            case hyq71 =>
                              refine Or.inl ⟨by rfl, ?_⟩
                              intro w hSw
                              go_simp
                              (try with_reducible rfl)
                            try simp only [Act.put, List.getElem_toArray, List.getElem_cons_succ, List.getElem_cons_zero, List.setIfInBounds_toArray, List.set_cons_zero, List.set_cons_succ]
                            refine wpAnyH_take (i := 11) (oi := ?oiq72) (v := ?vq72) ?hiq72 (by kernel_rfl) (by kernel_rfl) (by kernel_rfl) ?hqq72 ?hyq72 hHeld ?restq72
                            case hiq72 => exact rfl
                            case hqq72 => exact fun _ _ _ h => h
                            case hyq72 =>
                              refine Or.inl ⟨by rfl, ?_⟩
                              intro w hSw
                              go_simp
                              (try with_reducible rfl)
                            try simp only [Act.put, List.getElem_toArray, List.getElem_cons_succ, List.getElem_cons_zero, List.setIfInBounds_toArray, List.set_cons_zero, List.set_cons_succ]
                            refine wpAnyH_take (i := 12) (oi := ?oiq73) (v := ?vq73) ?hiq73 (by kernel_rfl) (by kernel_rfl) (by kernel_rfl) ?hqq73 ?hyq73 hHeld ?restq73
                            case hiq73 => exact rfl
                            case hqq73 => exact fun _ _ _ h => h
                            case hyq73 =>
                              refine Or.inl ⟨by rfl, ?_⟩
                              intro w hSw
                              go_simp
                              (try with_reducible rfl)
                            try simp only [Act.put, List.getElem_toArray, List.getElem_cons_succ, List.getElem_cons_zero, List.setIfInBounds_toArray, List.set_cons_zero, List.set_cons_succ]
                            refine wpAnyH_take (i := 13) (oi := ?oiq74) (v := (.slice (some ⟨tb2, toff2, none⟩) (Z m).length k2)) ?hiq74 (by kernel_rfl) (by kernel_rfl) (by kernel_rfl) ?hqq74 ?hyq74 hHeld ?restq74
                            case hiq74 => exact rfl
                            case hqq74 => exact fun _ _ _ h => h
                            case hyq74 =>
                              refine Or.inl ⟨by rfl, ?_⟩
                              intro w hSw
                              have y0 := (hSw.cell (p := ⟨gn, m, none⟩) (Nat.lt_of_lt_of_le hgn hBW)).trans z2
                              go_simp
                              (try with_reducible rfl)
                            try simp only [Act.put, List.getElem_toArray, List.getElem_cons_succ, List.getElem_cons_zero, List.setIfInBounds_toArray, List.set_cons_zero, List.set_cons_succ]
                            refine wpAnyH_take (i := 14) (oi := ?oiq75) (v := ?vq75) ?hiq75 (by kernel_rfl) (by kernel_rfl) (by kernel_rfl) ?hqq75 ?hyq75 hHeld ?restq75
                            case hiq75 => exact rfl
                            case hqq75 => exact fun _ _ _ h => h
                            case hyq75 =>
                              refine Or.inl ⟨by rfl, ?_⟩
                              intro w hSw
                              go_simp
                              (try with_reducible rfl)
                            try simp only [Act.put, List.getElem_toArray, List.getElem_cons_succ, List.getElem_cons_zero, List.setIfInBounds_toArray, List.set_cons_zero, List.set_cons_succ]
                            refine wpAnyH_take (i := 15) (oi := ?oiq76) (v := ?vq76) ?hiq76 (by kernel_rfl) (by kernel_rfl) (by kernel_rfl) ?hqq76 ?hyq76 hHeld ?restq76
                            case hiq76 => exact rfl
                            case hqq76 => exact fun _ _ _ h => h
                            case hyq76 =>
                              refine Or.inl ⟨by rfl, ?_⟩
                              intro w hSw
                              go_simp
                              (try with_reducible rfl)
                            try simp only [Act.put, List.getElem_toArray, List.getElem_cons_succ, List.getElem_cons_zero, List.setIfInBounds_toArray, List.set_cons_zero, List.set_cons_succ]
                            refine wpAnyH_take (i := 16) (oi := ?oiq77) (v := ?vq77) ?hiq77 (by kernel_rfl) (by kernel_rfl) (by kernel_rfl) ?hqq77 ?hyq77 hHeld ?restq77
                            case hiq77 => exact rfl
                            case hqq77 => exact fun _ _ _ h => h
                            case hyq77 =>
                              refine Or.inl ⟨by rfl, ?_⟩
                              intro w hSw
                              have y0 := (hSw.cell (p := ⟨tb2, _, none⟩) (Nat.lt_of_lt_of_le hl_tb2 hBW)).trans g0
                              have y1 := (hSw.cell (p := ⟨tb2, _, none⟩) (Nat.lt_of_lt_of_le hl_tb2 hBW)).trans g1
                              have y2 := (hSw.cell (p := ⟨tb2, _, none⟩) (Nat.lt_of_lt_of_le hl_tb2 hBW)).trans g2
                              have y3 := (hSw.cell (p := ⟨tb2, _, none⟩) (Nat.lt_of_lt_of_le hl_tb2 hBW)).trans g3
                              go_simp
                              (try with_reducible rfl)
                            try simp only [Act.put, List.getElem_toArray, List.getElem_cons_succ, List.getElem_cons_zero, List.setIfInBounds_toArray, List.set_cons_zero, List.set_cons_succ]
                            refine wpAnyH_take (i := 17) (oi := ?oiq78) (v := ?vq78) ?hiq78 (by kernel_rfl) (by kernel_rfl) (by kernel_rfl) ?hqq78 ?hyq78 hHeld ?restq78
                            case hiq78 => exact rfl
                            case hqq78 => exact fun _ _ _ h => h
                            case hyq78 =>
                              refine Or.inl ⟨by rfl, ?_⟩
                              intro w hSw
                              go_simp
                              (try with_reducible rfl)
                            try simp only [Act.put, List.getElem_toArray, List.getElem_cons_succ, List.getElem_cons_zero, List.setIfInBounds_toArray, List.set_cons_zero, List.set_cons_succ]
                            refine wpAnyH_ready (rs := [18]) (by kernel_rfl) (by simp) ?_
                            refine AllReadyH.cons (o := ?or80_18) ?hr80_18 ?kr80_18 AllReadyH.nil
                            case hr80_18 => exact rfl
                            intro K hK
                            go_simp
                            have HE2 := Lib.hid (show EditsAt (Wd.alloc (.cells #[.int .i64 (k : Int), .int .i64 x.op, .int .i64 x.to, .int .i64 x.a, .int .i64 x.b, .int .i64 (m : Int), .int .i64 y.op, .int .i64 y.to, .int .i64 y.a, .int .i64 y.b] 49)) (some ⟨Wd.heap.size, 0, none⟩) (pE ((⟨(k : Int), x⟩ : E), (⟨(m : Int), y⟩ : E))) from edit2_at Wd 49 (⟨(k : Int), x⟩, ⟨(m : Int), y⟩))
                            refine hK.out _ _ (hHeld.alloc hHeld.size (.cells #[.int .i64 (k : Int), .int .i64 x.op, .int .i64 x.to, .int .i64 x.a, .int .i64 x.b, .int .i64 (m : Int), .int .i64 y.op, .int .i64 y.to, .int .i64 y.a, .int .i64 y.b] 49)) (fun hHeld => ?_)
                            clear hK K
                            try simp only [Act.put, List.getElem_toArray, List.getElem_cons_succ, List.getElem_cons_zero, List.setIfInBounds_toArray, List.set_cons_zero, List.set_cons_succ]
                            refine wpAnyH_take (i := 19) (oi := ?oiq79) (v := ?vq79) ?hiq79 (by kernel_rfl) (by kernel_rfl) (by kernel_rfl) ?hqq79 ?hyq79 hHeld ?restq79
                            case hiq79 => exact rfl
                            case hqq79 => exact fun _ _ _ h => h
                            case hyq79 =>
                              refine Or.inl ⟨by rfl, ?_⟩
                              intro w hSw
                              go_simp
                              (try with_reducible rfl)
                            try simp only [Act.put, List.getElem_toArray, List.getElem_cons_succ, List.getElem_cons_zero, List.setIfInBounds_toArray, List.set_cons_zero, List.set_cons_succ]
                            have HBX := Lib.hid hHeld
                            refine wpAnyH_done (by kernel_rfl) ?_ _
                            clear hHeld
                            generalize hWG : Wd.alloc _ = WG at *
                            generalize hBK : Wd.heap.size = BK at *
                            clear hWG hBK
                            have HU := Lib.hid (HU.out.below HBX.out)
                            have HB := Lib.hid (HB.out.trans (HBX.out.mono HB.out.size))
                            clear z1 z2 f0 f1 f2 f3 g0 g1 g2 g3 hBW HBX
                            go_wp2_with fail
                            refine (HG1.out _ _ (HPW.out.below HB.out (Nat.le_refl _)) HE2.out (HTW.out.below HB.out (Nat.le_refl _))).mono ?_
                            rintro e w7 ⟨rfl, hB7⟩
                            have HU := Lib.hid (HU.out.below hB7)
                            have HE2 := Lib.hid (HE2.out.below hB7 (Nat.le_refl _))
                            have HB := Lib.hid (HB.out.trans (hB7.mono HB.out.size))
                            clear hB7
                            go_wp2_with fail
                            go_roundw
                            case rel => exact ⟨q + 1, _, by omega, rfl, by rw [HO.out] <;> rfl, by go_num, by rw [HO.out]; exact ⟨_, _, rfl, HE2.out⟩, HB.out⟩
                            case measure => simp [intOf]; omega
                    · obtain rfl : q = (Z m).length := by omega
                      have hlq1 : decide (((Z m).length : Int) < ((Z m).length : Int)) = false := decide_eq_false (by omega)
                      rw [F7k.out] at HU ⊢
                      go_wp2_with fail
                      go_roundw
                      case rel => exact ⟨m + 1, _, by omega, by omega, rfl, rfl, by go_num, HU.out, HB.out⟩
                      case measure => simp [intOf]; omega
                · obtain rfl : m = ps.length := by omega
                  have hlm1 : decide ((ps.length : Int) < (ps.length : Int)) = false := decide_eq_false (by omega)
                  rw [F5k.out] at HU ⊢
                  go_wp2_with fail
                  go_roundw
                  case rel => exact ⟨j + 1, _, by omega, rfl, rfl, by go_num, HU.out, HB.out⟩
                  case measure => simp [intOf]; omega
            · obtain rfl : j = (Z k).length := by omega
              have hlj1 : decide (((Z k).length : Int) < ((Z k).length : Int)) = false := decide_eq_false (by omega)
              rw [F2k.out] at HU ⊢
              go_wp2_with fail
              go_roundw
              case rel => exact ⟨k + 1, _, by omega, rfl, rfl, by go_num, HU.out, HB.out⟩
              case measure => simp [intOf]; omega
        · obtain rfl : k = ps.length := by omega
          have hlt2 : decide ((ps.length : Int) < (ps.length : Int)) = false := decide_eq_false (by omega)
          rw [F3.out] at HU ⊢
          have HDS1 := HDS.out
          obtain ⟨gu, cu, hue, hed⟩ := HU.out.ex
          subst hue
          rw [HDL.out] at hed ⊢
          have HED := Lib.hid hed
          have HBF := Lib.hid (HB3.out.trans (HB.out.mono HB3.out.size))
          obtain ⟨ds, hds⟩ : ∃ d, d = DO.isSome := ⟨_, rfl⟩
          rw [← hds] at HDS1
          have HDE := Lib.hid hds
          clear hds
          generalize bestS DO = bs at *
          clear hed HU
          go_wp2_with fail
          go_ret2
          exact ⟨gu, cu, by rw [← HDE.out] <;> rfl, HED.out, HBF.out⟩

end Go.Proofs.YtfclfmloceddfaaGreat
