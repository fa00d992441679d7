/- spans of the document: contract. -/
import Derived.Test.YtmpgaccpdglhkaaGreatSrM
import Derived.Test.YtmpgaccpdglhkaaGreatSrZ
set_option linter.unusedVariables false
set_option linter.unusedSimpArgs false
namespace Go.Proofs.YtmpgaccpdglhkaaGreat
open Go.RowKit Tinker

theorem isLn_skip {l : L} (h : isLn l = true) (h7 : l.op = 7) : 1 ≤ l.to ∧ l.to ≤ 8 := by
  unfold isLn at h
  rw [if_neg (by omega), if_neg (by omega), if_neg (by omega), if_neg (by omega), if_pos h7] at h
  simp only [Bool.and_eq_true] at h
  exact btw_true.1 h.1.1
theorem dRecv_few {st : List (List (List Rg))} {n j0 : Nat} {b : List Rg} (h : ∀ j, (st.getD j []).length ≤ n) (j : Nat) : ((dRecv st j0 b).getD j []).length ≤ n + 1 := by
  unfold dRecv
  by_cases e : j0 = j
  · subst e
    by_cases hl : j0 < st.length
    · rw [gDset_eq hl, List.length_append]; have := h j0; show _ + 1 ≤ _; omega
    · rw [List.set_eq_of_length_le (by omega)]; have := h j0; omega
  · rw [gDset_ne e]; have := h j; omega
theorem own_thereG {w : World} {base g n c : Nat} {e : TypeId} {b : List Rg} (h : w.ownsRow base e 2 (.slice (some ⟨g, 0, none⟩) n c) n (gc b)) {i : Nat} (hi : i < b.length) : w.there g (i * 2) 2 := fun j hj => by
  have hl : i * 2 + j < (gc b).length := by rw [gc_length]; omega
  obtain ⟨v, hv⟩ := get_of_lt hl
  exact ⟨by rw [own_cell h hv]; rfl, own_free h _⟩
theorem addr0 (g j : Nat) : (⟨g, 0, none⟩ : Addr).add j = ⟨g, j, none⟩ := by
  simp [Addr.add]
  exact fun h => h.symm
theorem own_setG {w : World} {base g n c : Nat} {e : TypeId} {b : List Rg} (h : w.ownsRow base e 2 (.slice (some ⟨g, 0, none⟩) n c) n (gc b)) {i : Nat} (hi : i < b.length) (x : Rg) : (w.setCells g (i * 2) [.int .i64 x.lo, .int .i64 x.hi]).ownsRow base e 2 (.slice (some ⟨g, 0, none⟩) n c) n (gc (b.set i x)) := by
  rw [gc_set _ hi]
  exact own_setCell (own_setCell h _ _) _ _
theorem info_rgs : (Tryz.prog.info? 38).map (fun i => (i.zero, i.size, i.bytes)) = some (some (.slice none 0 0), 1, 24) := by kernel_rfl
theorem info_rgss : (Tryz.prog.info? 89).map (fun i => (i.zero, i.size, i.bytes)) = some (some (.slice none 0 0), 1, 24) := by kernel_rfl
theorem mkRgs (n : Nat) (hn : n ≤ 1000) (w : World) : (Instr.makeSlice 90 (.int .i64 ((n : Int) + 1)) (.int .i64 ((n : Int) + 1))).run Tryz.prog w = .ok (.slice (some ⟨w.heap.size, 0, none⟩) (n + 1) (n + 1)) (w.alloc (.cells (List.replicate (n + 1) (Value.slice none 0 0)).toArray 89)) := by
  obtain ⟨i0, hi, hz0, hz1, hz2⟩ := info_parts info_rgss
  have h := run_make w 90 89 i0 (.slice none 0 0) Tryz.underlying90 hi hz0 .i64 .i64 (n + 1) (n + 1) (by omega) (by omega) (by rw [hz2]; omega) (by omega)
  rw [hz1] at h
  rw [h, show ((n : Int) + 1).toNat = n + 1 by omega]
  show Result.ok _ (w.alloc (.cells (madeCells #[Value.slice none 0 0] _) _)) = _
  rw [madeCells_one]
  simp
/-- All boxes in memory. -/
def GivesDoc (st : List (List (List Rg))) (w : World) (e : Ending) (w' : World) : Prop :=
  ∃ M xs, e = .returned (.slice (some ⟨M, 0, none⟩) st.length st.length) ∧ DocI w M st xs w'

set_option maxRecDepth 100000 in
set_option maxHeartbeats 8000000 in
theorem rspans_any (a a2 : Option Addr) (ca c2 : Nat) (ps : List L) (b : List Rg) (w : World) (hp : LinesAt w a ps) (hr : RangesAt w a2 b) (hv : vp ps = 0) (hb : OkB b) :
    Calls Tryz.prog 56 #[.slice a ps.length ca, .slice a2 b.length c2] w (GivesDoc (dL ps b) w) := by
  obtain ⟨j0, hjj, jz0, jz1, jz2⟩ := info_parts info_rgs
  obtain ⟨r0, hri, rz0, rz1, rz2⟩ := info_parts info_range
  obtain ⟨h8, hvl⟩ := vp_ok hv
  have h4 := hb.l4
  have hmk := mkRgs ps.length (by omega)
  obtain ⟨gb, offb, rfl, hgb, -⟩ := id (hr.resolve_left (by rintro rfl; simp at h4))
  have HKB := Lib.hid (fun W hB => kept_old (W := W) hr h4 hB (Nat.le_refl w.heap.size))
  have HP := Lib.hid hp
  have HVL := Lib.hid hvl
  have HOK := Lib.hid (fun k => okD_at hvl hb k)
  have HLN := Lib.hid (fun k => dAt_len ps b k)
  have HNEW := Lib.hid (fun (M : Nat) (W : World) (g : Nat) (hB : Below w.heap.size w W) => docI_new (w := w) (W := W) (M := M) (n := ps.length) (g := g) (b := b) (a := some ⟨gb, offb, none⟩) (c := c2) hB)
  have z1 := fun o => cell_alloc_keep (o := o) (hp_cell (w := w.alloc (.cells (List.replicate (ps.length + 1) (Value.slice none 0 0)).toArray 89)) (g := w.heap.size) (hp_new rfl) (j := 0) (v := .slice none 0 0) (by simp))
  have z2 : ((w.alloc (.cells (List.replicate (ps.length + 1) (Value.slice none 0 0)).toArray 89)).alloc (.cells #[.slice (some ⟨gb, offb, none⟩) 4 c2] 38)).heap[w.heap.size]? = some (.cells (List.replicate (ps.length + 1) (Value.slice none 0 0)).toArray 89 (0, 0)) := hp_alloc (hp_new rfl)
  have z3 := hp_free z2 0
  have HZ2 := Lib.hid (hp_put z2 0 (.slice (some ⟨w.heap.size + 1, 0, none⟩) 1 1))
  have HZ4 := Lib.hid (show ((w.alloc (.cells (List.replicate (ps.length + 1) (Value.slice none 0 0)).toArray 89)).alloc (.cells #[.slice (some ⟨gb, offb, none⟩) 4 c2] 38)).heap[w.heap.size + 1]? = some (.cells #[.slice (some ⟨gb, offb, none⟩) 4 c2] 38 (0, 0)) from hp_new (by simp))
  have HB0 := Lib.hid (((Below.refl w.heap.size w).alloc (Nat.le_refl _) (.cells (List.replicate (ps.length + 1) (Value.slice none 0 0)).toArray 89)).alloc (by simp) (.cells #[.slice (some ⟨gb, offb, none⟩) 4 c2] 38))
  rw [h4]
  clear z2 hv hvl hp hr h4 hb
  go_enter Tryz.func56, Tryz.ntmps56
  go_upto_region 3 with fail
  have HW0 := Lib.hid (show ((w.alloc (.cells ((Array.replicate (ps.length + 1) (Value.slice none 0 0)).setIfInBounds 0 (.slice (some ⟨w.heap.size + 1, 0, none⟩) 1 1)) 89)).alloc (.cells #[.slice (some ⟨gb, offb, none⟩) 4 c2] 38)).heap[w.heap.size]? = some (.cells ((List.replicate (ps.length + 1) (Value.slice none 0 0)).set 0 (.slice (some ⟨w.heap.size + 1, 0, none⟩) 1 1)).toArray 89 (0, 0)) from by rw [← List.setIfInBounds_toArray, ← List.toArray_replicate]; exact hp_alloc (hp_new rfl))
  have HBA := Lib.hid (((Below.refl w.heap.size w).alloc (Nat.le_refl _) (.cells ((Array.replicate (ps.length + 1) (Value.slice none 0 0)).setIfInBounds 0 (.slice (some ⟨w.heap.size + 1, 0, none⟩) 1 1)) 89)).alloc (by simp) (.cells #[.slice (some ⟨gb, offb, none⟩) 4 c2] 38))
  have HI0 := Lib.hid (show DocI w w.heap.size (dAt ps b 0) _ _ from HNEW.out w.heap.size _ (w.heap.size + 1) HBA.out HW0.out (Nat.le_refl _) (hp_new (by simp)) (by omega) (HKB.out _ HBA.out))
  clear HNEW HZ2 HZ4 HB0 HKB z1 z3 HW0 HBA
  generalize (World.alloc (World.alloc _ _) _) = W0 at *
  go_wp2_with fail
  go_loopw [6] (fun s6 wr => ∃ (k : Nat) (xs : List Value), k ≤ ps.length ∧ s6 = .int .i64 k ∧ DocI w w.heap.size (dAt ps b k) xs wr) (fun s6 _ => ps.length - (intOf s6).toNat)
  case atStart => exact ⟨0, _, Nat.zero_le _, rfl, HI0.out⟩
  case round =>
    clear HI0
    obtain ⟨k, xs, hk, rfl, hI⟩ := hrel
    generalize w.heap.size = M at hI ⊢
    by_cases hlt : k < ps.length
    · cases hrow : (dAt ps b k).getD k [] with
      | nil =>
        have hrow' := hrow
        obtain ⟨n0, a0, c0, ys0, hn0, -, z0, -, -, -⟩ := hI.at_ (j := k) (by rw [HLN.out]; omega)
        rw [hrow] at hn0
        obtain rfl : n0 = 0 := hn0.symm
        have HST := Lib.hid (show dAt ps b (k + 1) = dAt ps b k from dStep_none hrow)
        have HI := Lib.hid hI
        have hk1 : (k : Int) < (ps.length : Int) + 1 := by omega
        clear hI hrow hrow' hn0
        go_wp2_with fail
        go_roundw
        case rel => exact ⟨k + 1, xs, by omega, by go_num, by rw [HST.out]; exact HI.out⟩
        case measure => simp [intOf]; omega
      | cons b0 bs =>
        obtain ⟨n0, a0, c0, ys0, hn0, -, z0, -, -, hbx⟩ := hI.at_ (j := k) (by rw [HLN.out]; omega)
        have HFW := Lib.hid (fun j => (HOK.out k).few j)
        have hlk := HLN.out k
        have hokr := (HOK.out k).ok k
        have hfw := HFW.out k
        rw [hrow] at hn0 hbx hokr hfw
        rw [List.length_cons] at hn0 hfw
        obtain rfl : n0 = bs.length + 1 := hn0.symm
        have hxO : hO ((dAt ps b k).getD k []) = some (hullF b0 bs) := by rw [hrow]; rfl
        have hxb : OkB (hullF b0 bs) := okB_hO (HOK.out k |>.ok k) hxO
        have HH := Lib.hid (fun W h => rhull_any a0 c0 b0 bs W h (hokr b0 (by simp)).l4 (fun y hy => (hokr y (by simp [hy])).l4) (by omega))
        have HBX := Lib.hid hbx
        obtain ⟨lb, lf, l, el, hlb, hl, -, -, -, -⟩ := (HP.out.below hI.below (Nat.le_refl _)).at_ hlt
        have hln := HVL.out l (mem_of_get hl)
        have HST := Lib.hid (show dAt ps b (k + 1) = _ from dStep_some hxO hl)
        have hx4 := hxb.l4
        have hxx : (hullF b0 bs).length = 4 := hx4
        generalize hullF b0 bs = x at *
        have HI := Lib.hid hI
        have HX4 := Lib.hid hx4
        have hk1 : (k : Int) < (ps.length : Int) + 1 := by omega
        have hk2 : (k : Int) + 1 < (ps.length : Int) + 1 := by omega
        subst el
        have HL := Lib.hid hl
        have HROW := Lib.hid hrow
        have HLK := Lib.hid hlk
        clear hI hrow hn0 hbx hokr hfw hx4 hxO hlb hl hlk
        go_wp2_with fail
        refine (HH.out _ HBX.out).mono ?_
        intro e w1 hG
        obtain ⟨ax, cx, rfl, hox, hB1⟩ := hG
        rw [hxx] at hox
        rw [hxx]
        obtain ⟨gx, rfl⟩ := own_form hox (by omega)
        have HI1 := Lib.hid (HI.out.low hB1)
        have HOX := Lib.hid (own_mono hox HI.out.below.size)
        have HBW := Lib.hid (HI.out.below.trans (hB1.mono HI.out.below.size))
        obtain ⟨lb', lf', l', el, hlb, hl', y0, y1, y2, y3⟩ := (HP.out.below HBW.out (Nat.le_refl _)).at_ hlt
        injection el with el
        injection el with el1 el2
        subst el1 el2
        rw [HL.out] at hl'
        injection hl' with hl'
        subst hl'
        have HR2 := Lib.hid (show DocR w M (dAt ps b k) xs x gx cx l w1.heap.size (w1.alloc (.cells #[.int .i64 l.op, .int .i64 l.to, .int .i64 l.a, .int .i64 l.b] 42)) from ⟨HI1.out.low ((Below.refl w1.heap.size w1).alloc (Nat.le_refl _) _), own_below HOX.out ((Below.refl w1.heap.size w1).alloc (Nat.le_refl _) _) (Nat.le_refl _), hp_new rfl⟩)
        have HXB := Lib.hid hxb
        clear hox hB1 HI HI1 HOX HBW HBX HH z0 hxb hxx
        generalize dAt ps b k = st at *
        by_cases h7 : l.op = 7
        · have a1 := isLn_a hln (by omega)
          have b1' := isLn_b hln (by omega)
          obtain ⟨A0, A3⟩ := a1
          obtain ⟨B0, B3⟩ := b1'
          have t1 : l.a < 4 := by omega
          have t2 : l.b < 4 := by omega
          have u1 : l.a.toNat < 4 := by omega
          have u2 : l.b.toNat < 4 := by omega
          have g7 : (l.op == 7) = true := by simpa using h7
          have tt := isLn_skip hln h7
          have H7 := Lib.hid h7
          clear h7
          go_wp2_with fail
          generalize w1.alloc _ = W2 at *
          by_cases hab : l.a = l.b
          · have hgo := go_same hln HXB.out H7.out hab
            have hsk : skpB l x = false := by rw [skp_seven H7.out, show (l.a != l.b) = false by simpa using hab]; rfl
            have b1 : (l.a == l.b) = true := by simpa using hab
            have b2 : (l.a != l.b) = false := by simpa using hab
            rw [hgo, hsk, show afB l x = x by unfold afB; rw [if_neg (show ¬ Tinker.wr l = true by rw [wr_iff]; have := H7.out; omega)]] at HST
            replace HST : Hid (dAt ps b (k + 1) = (dRecv st (k + 1) x)) := Lib.hid (by simpa using HST.out)
            clear hgo hsk hab 
            obtain ⟨l00, l01, l02, l03⟩ := HR2.out.cells
            obtain ⟨p00, p01⟩ := HR2.out.rng HX4.out A0 A3
            obtain ⟨q00, q01⟩ := HR2.out.rng HX4.out B0 B3
            go_quiet (fail)
            have HQ : ∀ q, DocR _ _ _ _ _ _ _ _ _ (W2.drewN q) := fun q => HR2.out.low (below_dn (Below.refl _ _))
            generalize hWq : World.drewN W2 _ = W3 at *
            have HR3 := Lib.hid (hWq ▸ HQ _)
            clear hWq HQ
            obtain ⟨l10, l11, l12, l13⟩ := HR3.out.cells
            obtain ⟨p10, p11⟩ := HR3.out.rng HX4.out A0 A3
            obtain ⟨q10, q11⟩ := HR3.out.rng HX4.out B0 B3
            have HA1 := Lib.hid (HR3.out.low ((Below.refl W3.heap.size W3).alloc (Nat.le_refl _) (.cells #[.slice (some ⟨gx, 0, none⟩) 4 cx] 38)))
            have HK1 := Lib.hid (Kept.low (kept_own HR3.out.own (by omega)) ((Below.refl W3.heap.size W3).alloc (Nat.le_refl _) (.cells #[.slice (some ⟨gx, 0, none⟩) 4 cx] 38)))
            obtain ⟨n1, a1, c1, ys1, hn1, hx1, -, ho1, hys1, -⟩ := HA1.out.doc.at_ (j := (k + 1)) (by rw [HLK.out]; omega)
            have hfew1 : n1 ≤ 100 := by rw [← hn1]; exact Nat.le_trans (HFW.out (k + 1)) (by omega)
            have u1 : W3.cell? ⟨M, (k + 1), none⟩ = some (.slice a1 n1 c1) := hp_cell HR3.out.doc.blk (by simpa using hx1)
            have HO1 := Lib.hid ho1
            have HN1 := Lib.hid hn1
            have HX1 := Lib.hid hx1
            have HY1 := Lib.hid hys1
            have hwz1 : w.heap.size ≤ W3.heap.size := HR3.out.doc.below.size
            clear ho1 hn1 hx1 hys1
            go_wp2_with (at_builtin; go_loud (refine wpList_append_own_at _ rfl (.tmp 73) (.tmp 75) 89 rfl w.heap.size 38 j0 (.slice none 0 0) 1 24 Tryz.underlying89 hjj jz0 jz1 jz2 rfl (by decide) _ _ _ rfl HO1.out ⟨W3.heap.size, 0, none⟩ 1 1 [.slice (some ⟨gx, 0, none⟩) 4 cx] rfl (by rfl) (cell_one_new _ _ _) (by simp [Value.oneCell']) (by unfold maxLen; omega) (by omega) (by simp; omega) ?_))
            intro v1 w1 hown1 hgrow1 _ hat1
            have hb1 := HA1.out.doc.blk3 HO1.out hgrow1
            have HP1 := Lib.hid (HA1.out.push (j := (k + 1)) (by rw [HLK.out]; omega) HN1.out HX1.out HO1.out HY1.out HK1.out hown1 hgrow1 (by simpa using hat1) (Below.refl _ _))
            obtain ⟨e1, f1, rfl⟩ := own_slice hown1
            have m1 : w1.cell? ⟨M, (k + 1), none⟩ = some (.slice a1 n1 c1) := hp_cell hb1 (by simpa using HX1.out)
            have r1 : w1.frozen? ⟨M, (k + 1), none⟩ = false := hp_free hb1 _
            clear hown1 hgrow1 hat1 hb1 u1
            go_wp2_with fail
            generalize w1.setCell _ _ = W5 at *
            clear m1 r1
            have HR5 := HP1
            clear HP1
            obtain ⟨l20, l21, l22, l23⟩ := HR5.out.cells
            obtain ⟨p20, p21⟩ := HR5.out.rng HX4.out A0 A3
            obtain ⟨q20, q21⟩ := HR5.out.rng HX4.out B0 B3
            replace HLK : Hid ((dRecv st (k + 1) x).length = ps.length + 1) := Lib.hid (by rw [dRecv_len]; exact HLK.out)
            replace HFW : Hid (∀ j, ((dRecv st (k + 1) x).getD j []).length ≤ 2 * k + 2) := Lib.hid (fun j => dRecv_few HFW.out j)
            go_quiet (fail)
            have HQ : ∀ q, DocR _ _ _ _ _ _ _ _ _ (W5.drewN q) := fun q => HR5.out.low (below_dn (Below.refl _ _))
            generalize hWq : World.drewN W5 _ = W6 at *
            have HR6 := Lib.hid (hWq ▸ HQ _)
            clear hWq HQ
            go_wp2_with fail
            go_roundw
            case rel => exact ⟨k + 1, _, by omega, by go_num, by rw [HST.out]; exact HR6.out.doc⟩
            case measure => simp [intOf]; omega
          · by_cases hg : (gAt x l.b).lo ≤ (gAt x l.a).hi
            · by_cases hs : (gAt x l.a).lo < (gAt x l.b).hi
              · have hgo : goB l x = true := by rw [go_seven H7.out]; exact decide_eq_true hg
                have hsk : skpB l x = true := by rw [skp_seven H7.out, show (l.a != l.b) = true by simpa using hab, decide_eq_true hs]; rfl
                have b1 : (l.a == l.b) = false := by simpa using hab
                have b2 : (l.a != l.b) = true := by simpa using hab
                have b3 : decide ((gAt x l.b).lo ≤ (gAt x l.a).hi) = true := decide_eq_true hg
                have b4 : decide ((gAt x l.a).lo < (gAt x l.b).hi) = true := decide_eq_true hs
                rw [hgo, hsk, show afB l x = x by unfold afB; rw [if_neg (show ¬ Tinker.wr l = true by rw [wr_iff]; have := H7.out; omega)]] at HST
                replace HST : Hid (dAt ps b (k + 1) = (dRecv (dRecv st (k + 1) x) (min (k + 1 + l.to.toNat) ps.length) x)) := Lib.hid (by simpa using HST.out)
                clear hgo hsk hab hg hs
                obtain ⟨l00, l01, l02, l03⟩ := HR2.out.cells
                obtain ⟨p00, p01⟩ := HR2.out.rng HX4.out A0 A3
                obtain ⟨q00, q01⟩ := HR2.out.rng HX4.out B0 B3
                go_quiet (fail)
                have HQ : ∀ q, DocR _ _ _ _ _ _ _ _ _ (W2.drewN q) := fun q => HR2.out.low (below_dn (Below.refl _ _))
                generalize hWq : World.drewN W2 _ = W3 at *
                have HR3 := Lib.hid (hWq ▸ HQ _)
                clear hWq HQ
                obtain ⟨l10, l11, l12, l13⟩ := HR3.out.cells
                obtain ⟨p10, p11⟩ := HR3.out.rng HX4.out A0 A3
                obtain ⟨q10, q11⟩ := HR3.out.rng HX4.out B0 B3
                have HA2 := Lib.hid (HR3.out.low ((Below.refl W3.heap.size W3).alloc (Nat.le_refl _) (.cells #[.slice (some ⟨gx, 0, none⟩) 4 cx] 38)))
                have HK2 := Lib.hid (Kept.low (kept_own HR3.out.own (by omega)) ((Below.refl W3.heap.size W3).alloc (Nat.le_refl _) (.cells #[.slice (some ⟨gx, 0, none⟩) 4 cx] 38)))
                obtain ⟨n2, a2, c2, ys2, hn2, hx2, -, ho2, hys2, -⟩ := HA2.out.doc.at_ (j := (k + 1)) (by rw [HLK.out]; omega)
                have hfew2 : n2 ≤ 100 := by rw [← hn2]; exact Nat.le_trans (HFW.out (k + 1)) (by omega)
                have u2 : W3.cell? ⟨M, (k + 1), none⟩ = some (.slice a2 n2 c2) := hp_cell HR3.out.doc.blk (by simpa using hx2)
                have HO2 := Lib.hid ho2
                have HN2 := Lib.hid hn2
                have HX2 := Lib.hid hx2
                have HY2 := Lib.hid hys2
                have hwz2 : w.heap.size ≤ W3.heap.size := HR3.out.doc.below.size
                clear ho2 hn2 hx2 hys2
                go_wp2_with (at_builtin; go_loud (refine wpList_append_own_at _ rfl (.tmp 73) (.tmp 75) 89 rfl w.heap.size 38 j0 (.slice none 0 0) 1 24 Tryz.underlying89 hjj jz0 jz1 jz2 rfl (by decide) _ _ _ rfl HO2.out ⟨W3.heap.size, 0, none⟩ 1 1 [.slice (some ⟨gx, 0, none⟩) 4 cx] rfl (by rfl) (cell_one_new _ _ _) (by simp [Value.oneCell']) (by unfold maxLen; omega) (by omega) (by simp; omega) ?_))
                intro v2 w2 hown2 hgrow2 _ hat2
                have hb2 := HA2.out.doc.blk3 HO2.out hgrow2
                have HP2 := Lib.hid (HA2.out.push (j := (k + 1)) (by rw [HLK.out]; omega) HN2.out HX2.out HO2.out HY2.out HK2.out hown2 hgrow2 (by simpa using hat2) (Below.refl _ _))
                obtain ⟨e2, f2, rfl⟩ := own_slice hown2
                have m2 : w2.cell? ⟨M, (k + 1), none⟩ = some (.slice a2 n2 c2) := hp_cell hb2 (by simpa using HX2.out)
                have r2 : w2.frozen? ⟨M, (k + 1), none⟩ = false := hp_free hb2 _
                clear hown2 hgrow2 hat2 hb2 u2
                go_wp2_with fail
                generalize w2.setCell _ _ = W5 at *
                clear m2 r2
                have HR5 := HP2
                clear HP2
                obtain ⟨l20, l21, l22, l23⟩ := HR5.out.cells
                obtain ⟨p20, p21⟩ := HR5.out.rng HX4.out A0 A3
                obtain ⟨q20, q21⟩ := HR5.out.rng HX4.out B0 B3
                replace HLK : Hid ((dRecv st (k + 1) x).length = ps.length + 1) := Lib.hid (by rw [dRecv_len]; exact HLK.out)
                replace HFW : Hid (∀ j, ((dRecv st (k + 1) x).getD j []).length ≤ 2 * k + 2) := Lib.hid (fun j => dRecv_few HFW.out j)
                go_quiet (fail)
                have HQ : ∀ q, DocR _ _ _ _ _ _ _ _ _ (W5.drewN q) := fun q => HR5.out.low (below_dn (Below.refl _ _))
                generalize hWq : World.drewN W5 _ = W6 at *
                have HR6 := Lib.hid (hWq ▸ HQ _)
                clear hWq HQ
                obtain ⟨l40, l41, l42, l43⟩ := HR6.out.cells
                obtain ⟨p40, p41⟩ := HR6.out.rng HX4.out A0 A3
                obtain ⟨q40, q41⟩ := HR6.out.rng HX4.out B0 B3
                by_cases hto : (ps.length : Int) < (k : Int) + 1 + l.to
                · go_upto_region 14 with fail
                  rw [show min (k + 1 + l.to.toNat) ps.length = ps.length by omega] at HST
                  have hji : (ps.length : Int) < (ps.length : Int) + 1 := by omega
                  have HA3 := Lib.hid (HR6.out.low ((Below.refl W6.heap.size W6).alloc (Nat.le_refl _) (.cells #[.slice (some ⟨gx, 0, none⟩) 4 cx] 38)))
                  have HK3 := Lib.hid (Kept.low (kept_own HR6.out.own (by omega)) ((Below.refl W6.heap.size W6).alloc (Nat.le_refl _) (.cells #[.slice (some ⟨gx, 0, none⟩) 4 cx] 38)))
                  obtain ⟨n3, a3, c3, ys3, hn3, hx3, -, ho3, hys3, -⟩ := HA3.out.doc.at_ (j := ps.length) (by rw [HLK.out]; omega)
                  have hfew3 : n3 ≤ 100 := by rw [← hn3]; exact Nat.le_trans (HFW.out _) (by omega)
                  have u3 : W6.cell? ⟨M, ps.length, none⟩ = some (.slice a3 n3 c3) := hp_cell HR6.out.doc.blk (by simpa using hx3)
                  have HO3 := Lib.hid ho3
                  have HN3 := Lib.hid hn3
                  have HX3 := Lib.hid hx3
                  have HY3 := Lib.hid hys3
                  have hwz3 : w.heap.size ≤ W6.heap.size := HR6.out.doc.below.size
                  clear ho3 hn3 hx3 hys3
                  go_wp2_with (at_builtin; go_loud (refine wpList_append_own_at _ rfl (.tmp 111) (.tmp 113) 89 rfl w.heap.size 38 j0 (.slice none 0 0) 1 24 Tryz.underlying89 hjj jz0 jz1 jz2 rfl (by decide) _ _ _ rfl HO3.out ⟨W6.heap.size, 0, none⟩ 1 1 [.slice (some ⟨gx, 0, none⟩) 4 cx] rfl (by rfl) (cell_one_new _ _ _) (by simp [Value.oneCell']) (by unfold maxLen; omega) (by omega) (by simp; omega) ?_))
                  intro v3 w3 hown3 hgrow3 _ hat3
                  have hb3 := HA3.out.doc.blk3 HO3.out hgrow3
                  have HP3 := Lib.hid (HA3.out.push (j := ps.length) (by rw [HLK.out]; omega) HN3.out HX3.out HO3.out HY3.out HK3.out hown3 hgrow3 (by simpa using hat3) (Below.refl _ _))
                  obtain ⟨e3, f3, rfl⟩ := own_slice hown3
                  have m3 : w3.cell? ⟨M, ps.length, none⟩ = some (.slice a3 n3 c3) := hp_cell hb3 (by simpa using HX3.out)
                  have r3 : w3.frozen? ⟨M, ps.length, none⟩ = false := hp_free hb3 _
                  clear hown3 hgrow3 hat3 hb3 u3
                  go_wp2_with fail
                  generalize w3.setCell _ _ = W7 at *
                  clear m3 r3
                  have HR7 := HP3
                  clear HP3
                  go_roundw
                  case rel => exact ⟨k + 1, _, by omega, by go_num, by rw [HST.out]; exact HR7.out.doc⟩
                  case measure => simp [intOf]; omega
                · have hto' : decide ((ps.length : Int) < (k : Int) + 1 + l.to) = false := decide_eq_false hto
                  go_upto_region 14 with fail
                  obtain ⟨j, hj⟩ : ∃ j, j = min (k + 1 + l.to.toNat) ps.length := ⟨_, rfl⟩
                  rw [← hj] at HST
                  have hjl : j < ps.length + 1 := by omega
                  have hji : (j : Int) < (ps.length : Int) + 1 := by omega
                  rw [show (k : Int) + 1 + l.to = (j : Int) by omega]
                  clear hj
                  have HA4 := Lib.hid (HR6.out.low ((Below.refl W6.heap.size W6).alloc (Nat.le_refl _) (.cells #[.slice (some ⟨gx, 0, none⟩) 4 cx] 38)))
                  have HK4 := Lib.hid (Kept.low (kept_own HR6.out.own (by omega)) ((Below.refl W6.heap.size W6).alloc (Nat.le_refl _) (.cells #[.slice (some ⟨gx, 0, none⟩) 4 cx] 38)))
                  obtain ⟨n4, a4, c4, ys4, hn4, hx4, -, ho4, hys4, -⟩ := HA4.out.doc.at_ (j := j) (by rw [HLK.out]; exact hjl)
                  have hfew4 : n4 ≤ 100 := by rw [← hn4]; exact Nat.le_trans (HFW.out _) (by omega)
                  have u4 : W6.cell? ⟨M, j, none⟩ = some (.slice a4 n4 c4) := hp_cell HR6.out.doc.blk (by simpa using hx4)
                  have HO4 := Lib.hid ho4
                  have HN4 := Lib.hid hn4
                  have HX4 := Lib.hid hx4
                  have HY4 := Lib.hid hys4
                  have hwz4 : w.heap.size ≤ W6.heap.size := HR6.out.doc.below.size
                  clear ho4 hn4 hx4 hys4
                  go_wp2_with (at_builtin; go_loud (refine wpList_append_own_at _ rfl (.tmp 111) (.tmp 113) 89 rfl w.heap.size 38 j0 (.slice none 0 0) 1 24 Tryz.underlying89 hjj jz0 jz1 jz2 rfl (by decide) _ _ _ rfl HO4.out ⟨W6.heap.size, 0, none⟩ 1 1 [.slice (some ⟨gx, 0, none⟩) 4 cx] rfl (by rfl) (cell_one_new _ _ _) (by simp [Value.oneCell']) (by unfold maxLen; omega) (by omega) (by simp; omega) ?_))
                  intro v4 w4 hown4 hgrow4 _ hat4
                  have hb4 := HA4.out.doc.blk3 HO4.out hgrow4
                  have HP4 := Lib.hid (HA4.out.push (j := j) (by rw [HLK.out]; exact hjl) HN4.out HX4.out HO4.out HY4.out HK4.out hown4 hgrow4 (by simpa using hat4) (Below.refl _ _))
                  obtain ⟨e4, f4, rfl⟩ := own_slice hown4
                  have m4 : w4.cell? ⟨M, j, none⟩ = some (.slice a4 n4 c4) := hp_cell hb4 (by simpa using HX4.out)
                  have r4 : w4.frozen? ⟨M, j, none⟩ = false := hp_free hb4 _
                  clear hown4 hgrow4 hat4 hb4 u4
                  go_wp2_with fail
                  generalize w4.setCell _ _ = W7 at *
                  clear m4 r4
                  have HR7 := HP4
                  clear HP4
                  go_roundw
                  case rel => exact ⟨k + 1, _, by omega, by go_num, by rw [HST.out]; exact HR7.out.doc⟩
                  case measure => simp [intOf]; omega
              · have hgo : goB l x = true := by rw [go_seven H7.out]; exact decide_eq_true hg
                have hsk : skpB l x = false := by rw [skp_seven H7.out, show (l.a != l.b) = true by simpa using hab, decide_eq_false hs]; rfl
                have b1 : (l.a == l.b) = false := by simpa using hab
                have b2 : (l.a != l.b) = true := by simpa using hab
                have b3 : decide ((gAt x l.b).lo ≤ (gAt x l.a).hi) = true := decide_eq_true hg
                have b4 : decide ((gAt x l.a).lo < (gAt x l.b).hi) = false := decide_eq_false hs
                rw [hgo, hsk, show afB l x = x by unfold afB; rw [if_neg (show ¬ Tinker.wr l = true by rw [wr_iff]; have := H7.out; omega)]] at HST
                replace HST : Hid (dAt ps b (k + 1) = (dRecv st (k + 1) x)) := Lib.hid (by simpa using HST.out)
                clear hgo hsk hab hg hs
                obtain ⟨l00, l01, l02, l03⟩ := HR2.out.cells
                obtain ⟨p00, p01⟩ := HR2.out.rng HX4.out A0 A3
                obtain ⟨q00, q01⟩ := HR2.out.rng HX4.out B0 B3
                go_quiet (fail)
                have HQ : ∀ q, DocR _ _ _ _ _ _ _ _ _ (W2.drewN q) := fun q => HR2.out.low (below_dn (Below.refl _ _))
                generalize hWq : World.drewN W2 _ = W3 at *
                have HR3 := Lib.hid (hWq ▸ HQ _)
                clear hWq HQ
                obtain ⟨l10, l11, l12, l13⟩ := HR3.out.cells
                obtain ⟨p10, p11⟩ := HR3.out.rng HX4.out A0 A3
                obtain ⟨q10, q11⟩ := HR3.out.rng HX4.out B0 B3
                have HA5 := Lib.hid (HR3.out.low ((Below.refl W3.heap.size W3).alloc (Nat.le_refl _) (.cells #[.slice (some ⟨gx, 0, none⟩) 4 cx] 38)))
                have HK5 := Lib.hid (Kept.low (kept_own HR3.out.own (by omega)) ((Below.refl W3.heap.size W3).alloc (Nat.le_refl _) (.cells #[.slice (some ⟨gx, 0, none⟩) 4 cx] 38)))
                obtain ⟨n5, a5, c5, ys5, hn5, hx5, -, ho5, hys5, -⟩ := HA5.out.doc.at_ (j := (k + 1)) (by rw [HLK.out]; omega)
                have hfew5 : n5 ≤ 100 := by rw [← hn5]; exact Nat.le_trans (HFW.out (k + 1)) (by omega)
                have u5 : W3.cell? ⟨M, (k + 1), none⟩ = some (.slice a5 n5 c5) := hp_cell HR3.out.doc.blk (by simpa using hx5)
                have HO5 := Lib.hid ho5
                have HN5 := Lib.hid hn5
                have HX5 := Lib.hid hx5
                have HY5 := Lib.hid hys5
                have hwz5 : w.heap.size ≤ W3.heap.size := HR3.out.doc.below.size
                clear ho5 hn5 hx5 hys5
                go_wp2_with (at_builtin; go_loud (refine wpList_append_own_at _ rfl (.tmp 73) (.tmp 75) 89 rfl w.heap.size 38 j0 (.slice none 0 0) 1 24 Tryz.underlying89 hjj jz0 jz1 jz2 rfl (by decide) _ _ _ rfl HO5.out ⟨W3.heap.size, 0, none⟩ 1 1 [.slice (some ⟨gx, 0, none⟩) 4 cx] rfl (by rfl) (cell_one_new _ _ _) (by simp [Value.oneCell']) (by unfold maxLen; omega) (by omega) (by simp; omega) ?_))
                intro v5 w5 hown5 hgrow5 _ hat5
                have hb5 := HA5.out.doc.blk3 HO5.out hgrow5
                have HP5 := Lib.hid (HA5.out.push (j := (k + 1)) (by rw [HLK.out]; omega) HN5.out HX5.out HO5.out HY5.out HK5.out hown5 hgrow5 (by simpa using hat5) (Below.refl _ _))
                obtain ⟨e5, f5, rfl⟩ := own_slice hown5
                have m5 : w5.cell? ⟨M, (k + 1), none⟩ = some (.slice a5 n5 c5) := hp_cell hb5 (by simpa using HX5.out)
                have r5 : w5.frozen? ⟨M, (k + 1), none⟩ = false := hp_free hb5 _
                clear hown5 hgrow5 hat5 hb5 u5
                go_wp2_with fail
                generalize w5.setCell _ _ = W5 at *
                clear m5 r5
                have HR5 := HP5
                clear HP5
                obtain ⟨l20, l21, l22, l23⟩ := HR5.out.cells
                obtain ⟨p20, p21⟩ := HR5.out.rng HX4.out A0 A3
                obtain ⟨q20, q21⟩ := HR5.out.rng HX4.out B0 B3
                replace HLK : Hid ((dRecv st (k + 1) x).length = ps.length + 1) := Lib.hid (by rw [dRecv_len]; exact HLK.out)
                replace HFW : Hid (∀ j, ((dRecv st (k + 1) x).getD j []).length ≤ 2 * k + 2) := Lib.hid (fun j => dRecv_few HFW.out j)
                go_quiet (fail)
                have HQ : ∀ q, DocR _ _ _ _ _ _ _ _ _ (W5.drewN q) := fun q => HR5.out.low (below_dn (Below.refl _ _))
                generalize hWq : World.drewN W5 _ = W6 at *
                have HR6 := Lib.hid (hWq ▸ HQ _)
                clear hWq HQ
                go_wp2_with fail
                go_roundw
                case rel => exact ⟨k + 1, _, by omega, by go_num, by rw [HST.out]; exact HR6.out.doc⟩
                case measure => simp [intOf]; omega
            · have hs : (gAt x l.a).lo < (gAt x l.b).hi := by
                have A := okG_iff.1 (HXB.out.g A0 A3)
                have B := okG_iff.1 (HXB.out.g B0 B3)
                omega
              have hgo : goB l x = false := by rw [go_seven H7.out]; exact decide_eq_false hg
              have hsk : skpB l x = true := by rw [skp_seven H7.out, show (l.a != l.b) = true by simpa using hab, decide_eq_true hs]; rfl
              have b1 : (l.a == l.b) = false := by simpa using hab
              have b2 : (l.a != l.b) = true := by simpa using hab
              have b3 : decide ((gAt x l.b).lo ≤ (gAt x l.a).hi) = false := decide_eq_false hg
              have b4 : decide ((gAt x l.a).lo < (gAt x l.b).hi) = true := decide_eq_true hs
              rw [hgo, hsk, show afB l x = x by unfold afB; rw [if_neg (show ¬ Tinker.wr l = true by rw [wr_iff]; have := H7.out; omega)]] at HST
              replace HST : Hid (dAt ps b (k + 1) = (dRecv st (min (k + 1 + l.to.toNat) ps.length) x)) := Lib.hid (by simpa using HST.out)
              clear hgo hsk hab hg hs
              obtain ⟨l00, l01, l02, l03⟩ := HR2.out.cells
              obtain ⟨p00, p01⟩ := HR2.out.rng HX4.out A0 A3
              obtain ⟨q00, q01⟩ := HR2.out.rng HX4.out B0 B3
              go_quiet (fail)
              have HQ : ∀ q, DocR _ _ _ _ _ _ _ _ _ (W2.drewN q) := fun q => HR2.out.low (below_dn (Below.refl _ _))
              generalize hWq : World.drewN W2 _ = W3 at *
              have HR3 := Lib.hid (hWq ▸ HQ _)
              clear hWq HQ
              obtain ⟨l10, l11, l12, l13⟩ := HR3.out.cells
              obtain ⟨p10, p11⟩ := HR3.out.rng HX4.out A0 A3
              obtain ⟨q10, q11⟩ := HR3.out.rng HX4.out B0 B3
              go_wp2_with fail
              go_quiet (fail)
              have HQ : ∀ q, DocR _ _ _ _ _ _ _ _ _ (W3.drewN q) := fun q => HR3.out.low (below_dn (Below.refl _ _))
              generalize hWq : World.drewN W3 _ = W6 at *
              have HR6 := Lib.hid (hWq ▸ HQ _)
              clear hWq HQ
              obtain ⟨l40, l41, l42, l43⟩ := HR6.out.cells
              obtain ⟨p40, p41⟩ := HR6.out.rng HX4.out A0 A3
              obtain ⟨q40, q41⟩ := HR6.out.rng HX4.out B0 B3
              by_cases hto : (ps.length : Int) < (k : Int) + 1 + l.to
              · go_upto_region 14 with fail
                rw [show min (k + 1 + l.to.toNat) ps.length = ps.length by omega] at HST
                have hji : (ps.length : Int) < (ps.length : Int) + 1 := by omega
                have HA6 := Lib.hid (HR6.out.low ((Below.refl W6.heap.size W6).alloc (Nat.le_refl _) (.cells #[.slice (some ⟨gx, 0, none⟩) 4 cx] 38)))
                have HK6 := Lib.hid (Kept.low (kept_own HR6.out.own (by omega)) ((Below.refl W6.heap.size W6).alloc (Nat.le_refl _) (.cells #[.slice (some ⟨gx, 0, none⟩) 4 cx] 38)))
                obtain ⟨n6, a6, c6, ys6, hn6, hx6, -, ho6, hys6, -⟩ := HA6.out.doc.at_ (j := ps.length) (by rw [HLK.out]; omega)
                have hfew6 : n6 ≤ 100 := by rw [← hn6]; exact Nat.le_trans (HFW.out _) (by omega)
                have u6 : W6.cell? ⟨M, ps.length, none⟩ = some (.slice a6 n6 c6) := hp_cell HR6.out.doc.blk (by simpa using hx6)
                have HO6 := Lib.hid ho6
                have HN6 := Lib.hid hn6
                have HX6 := Lib.hid hx6
                have HY6 := Lib.hid hys6
                have hwz6 : w.heap.size ≤ W6.heap.size := HR6.out.doc.below.size
                clear ho6 hn6 hx6 hys6
                go_wp2_with (at_builtin; go_loud (refine wpList_append_own_at _ rfl (.tmp 111) (.tmp 113) 89 rfl w.heap.size 38 j0 (.slice none 0 0) 1 24 Tryz.underlying89 hjj jz0 jz1 jz2 rfl (by decide) _ _ _ rfl HO6.out ⟨W6.heap.size, 0, none⟩ 1 1 [.slice (some ⟨gx, 0, none⟩) 4 cx] rfl (by rfl) (cell_one_new _ _ _) (by simp [Value.oneCell']) (by unfold maxLen; omega) (by omega) (by simp; omega) ?_))
                intro v6 w6 hown6 hgrow6 _ hat6
                have hb6 := HA6.out.doc.blk3 HO6.out hgrow6
                have HP6 := Lib.hid (HA6.out.push (j := ps.length) (by rw [HLK.out]; omega) HN6.out HX6.out HO6.out HY6.out HK6.out hown6 hgrow6 (by simpa using hat6) (Below.refl _ _))
                obtain ⟨e6, f6, rfl⟩ := own_slice hown6
                have m6 : w6.cell? ⟨M, ps.length, none⟩ = some (.slice a6 n6 c6) := hp_cell hb6 (by simpa using HX6.out)
                have r6 : w6.frozen? ⟨M, ps.length, none⟩ = false := hp_free hb6 _
                clear hown6 hgrow6 hat6 hb6 u6
                go_wp2_with fail
                generalize w6.setCell _ _ = W7 at *
                clear m6 r6
                have HR7 := HP6
                clear HP6
                go_roundw
                case rel => exact ⟨k + 1, _, by omega, by go_num, by rw [HST.out]; exact HR7.out.doc⟩
                case measure => simp [intOf]; omega
              · have hto' : decide ((ps.length : Int) < (k : Int) + 1 + l.to) = false := decide_eq_false hto
                go_upto_region 14 with fail
                obtain ⟨j, hj⟩ : ∃ j, j = min (k + 1 + l.to.toNat) ps.length := ⟨_, rfl⟩
                rw [← hj] at HST
                have hjl : j < ps.length + 1 := by omega
                have hji : (j : Int) < (ps.length : Int) + 1 := by omega
                rw [show (k : Int) + 1 + l.to = (j : Int) by omega]
                clear hj
                have HA7 := Lib.hid (HR6.out.low ((Below.refl W6.heap.size W6).alloc (Nat.le_refl _) (.cells #[.slice (some ⟨gx, 0, none⟩) 4 cx] 38)))
                have HK7 := Lib.hid (Kept.low (kept_own HR6.out.own (by omega)) ((Below.refl W6.heap.size W6).alloc (Nat.le_refl _) (.cells #[.slice (some ⟨gx, 0, none⟩) 4 cx] 38)))
                obtain ⟨n7, a7, c7, ys7, hn7, hx7, -, ho7, hys7, -⟩ := HA7.out.doc.at_ (j := j) (by rw [HLK.out]; exact hjl)
                have hfew7 : n7 ≤ 100 := by rw [← hn7]; exact Nat.le_trans (HFW.out _) (by omega)
                have u7 : W6.cell? ⟨M, j, none⟩ = some (.slice a7 n7 c7) := hp_cell HR6.out.doc.blk (by simpa using hx7)
                have HO7 := Lib.hid ho7
                have HN7 := Lib.hid hn7
                have HX7 := Lib.hid hx7
                have HY7 := Lib.hid hys7
                have hwz7 : w.heap.size ≤ W6.heap.size := HR6.out.doc.below.size
                clear ho7 hn7 hx7 hys7
                go_wp2_with (at_builtin; go_loud (refine wpList_append_own_at _ rfl (.tmp 111) (.tmp 113) 89 rfl w.heap.size 38 j0 (.slice none 0 0) 1 24 Tryz.underlying89 hjj jz0 jz1 jz2 rfl (by decide) _ _ _ rfl HO7.out ⟨W6.heap.size, 0, none⟩ 1 1 [.slice (some ⟨gx, 0, none⟩) 4 cx] rfl (by rfl) (cell_one_new _ _ _) (by simp [Value.oneCell']) (by unfold maxLen; omega) (by omega) (by simp; omega) ?_))
                intro v7 w7 hown7 hgrow7 _ hat7
                have hb7 := HA7.out.doc.blk3 HO7.out hgrow7
                have HP7 := Lib.hid (HA7.out.push (j := j) (by rw [HLK.out]; exact hjl) HN7.out HX7.out HO7.out HY7.out HK7.out hown7 hgrow7 (by simpa using hat7) (Below.refl _ _))
                obtain ⟨e7, f7, rfl⟩ := own_slice hown7
                have m7 : w7.cell? ⟨M, j, none⟩ = some (.slice a7 n7 c7) := hp_cell hb7 (by simpa using HX7.out)
                have r7 : w7.frozen? ⟨M, j, none⟩ = false := hp_free hb7 _
                clear hown7 hgrow7 hat7 hb7 u7
                go_wp2_with fail
                generalize w7.setCell _ _ = W7 at *
                clear m7 r7
                have HR7 := HP7
                clear HP7
                go_roundw
                case rel => exact ⟨k + 1, _, by omega, by go_num, by rw [HST.out]; exact HR7.out.doc⟩
                case measure => simp [intOf]; omega
        · by_cases hw : Tinker.wr l = true
          · rw [go_else h7, skp_else h7] at HST
            replace HST : Hid (dAt ps b (k + 1) = dRecv st (k + 1) (afB l x)) := Lib.hid (by simpa using HST.out)
            have HWR := Lib.hid (fun W => rWrites_A l W)
            rw [show wrB l = true by unfold wrB; rw [hln]; simpa using hw, show wrN l = l.to by unfold wrN; rw [hln]; simp [hw], show vl l = 0 by unfold vl; rw [hln]; rfl] at HWR
            have g7 : (l.op == 7) = false := by simpa using h7
            have hto := isLn_to hln (by have := isLn_op hln; have := (wr_iff.1 hw).1; omega) (by have := isLn_op hln; omega)
            obtain ⟨to0, to3⟩ := hto
            have t1 : l.to < 4 := by omega
            have u1 : l.to.toNat < 4 := by omega
            have HAF := Lib.hid (show afB l x = x.set l.to.toNat (cutG (rawG l x)) by unfold afB; rw [if_pos hw])
            have HOB := Lib.hid (okB_af hln HXB.out)
            have hW0 := fun (a : Option Addr) (ca : Nat) W h => rwritten_any a ca x l W h HXB.out hln hw
            unfold lv at hW0
            rw [HX4.out] at hW0
            have HW := Lib.hid hW0
            clear hW0
            clear hw
            have H7 := Lib.hid h7
            clear h7
            go_upto_region 15 with fail
            have hB2 : w1.heap.size < (w1.alloc (.cells #[.int .i64 l.op, .int .i64 l.to, .int .i64 l.a, .int .i64 l.b] 42)).heap.size := by simp
            generalize w1.alloc _ = W2 at *
            have hown0 := World.ownsRow_lit (base := W2.heap.size) (e := 37) (size := 2) W2 #[] 0 (Nat.le_refl _) (by simp [maxLen]) (by simp)
            have HC := Lib.hid (fun (j : Nat) (u : Value) (hu : (gc x)[j]? = some u) => show (W2.alloc (.cells #[] 37)).cell? ((⟨gx, 0, none⟩ : Addr).add j) = some u by rw [addr0]; exact cell_alloc_keep (own_cell HR2.out.own hu))
            have hwz : w.heap.size ≤ W2.heap.size := HR2.out.doc.below.size
            go_wp2_with (at_builtin; go_loud (refine wpList_append_own _ rfl (.tmp 116) (.tmp 117) 38 rfl W2.heap.size 37 r0 (.agg #[.int .i64 0, .int .i64 0]) 2 16 Tryz.underlying38 hri rz0 rz1 rz2 rfl (by decide) _ 0 [] rfl hown0 ⟨gx, 0, none⟩ 4 cx (gc x) rfl (by rw [gc_length, HX4.out]) HC.out (gc_one x) (by decide) (by omega) (by simp) ?_))
            intro v3 w3 hown3 hgrow3 _
            obtain ⟨an, cn, rfl⟩ := own_slice hown3
            obtain ⟨gn, rfl⟩ := own_form hown3 (by omega)
            have hgn : W2.heap.size ≤ gn := own_base' hown3
            have hgx : gx < W2.heap.size := own_lt HR2.out.own
            have HB3 := Lib.hid (show Below W2.heap.size W2 w3 from (((Below.refl W2.heap.size W2).alloc (Nat.le_refl _) _).grown hgrow3 (by simp) (by rintro k hk; simp [Value.ownBlock] at hk; omega)))
            have HR3 := Lib.hid (HR2.out.low HB3.out)
            have HON := Lib.hid (own_mono (show w3.ownsRow W2.heap.size 37 2 (.slice (some ⟨gn, 0, none⟩) 4 cn) 4 (gc x) by simpa using hown3) hwz)
            obtain ⟨l00, l01, l02, l03⟩ := HR3.out.cells
            have HR2Q := Lib.hid HR2.out
            clear hown0 hown3 hgrow3 HR2 HC
            go_wp2_with fail
            refine (HWR.out _).mono ?_
            rintro e w4 ⟨rfl, hB4⟩
            have HR4 := Lib.hid (HR3.out.low hB4)
            have HN4 := Lib.hid (own_below HON.out hB4 (Nat.le_refl _))
            have HBQ := Lib.hid (HB3.out.trans (hB4.mono HB3.out.size))
            clear HR3 HON hB4 HB3 l00 l01 l02 l03
            obtain ⟨l00, l01, l02, l03⟩ := HR4.out.cells
            go_wp2_with fail
            have HN4d := Lib.hid (own_below HN4.out ((Below.refl _ _).drew) (Nat.le_refl _))
            refine wp_region_held_drew (S := (fun W => Below W2.heap.size W2 W)) (by kernel_rfl) ?_ (fun hHeld => ?_)
            · exact HBQ.out.drew
            generalize World.drew w4 = Wd at *
            refine wpAnyH_take (i := 0) (oi := ?oiq1) (v := ?vq1) ?hiq1 (by kernel_rfl) (by kernel_rfl) (by kernel_rfl) ?hqq1 ?hyq1 hHeld ?restq1
            case hiq1 => exact rfl
            case hqq1 => exact fun _ _ _ h => h
            case hyq1 =>
              refine Or.inl ⟨by rfl, ?_⟩
              intro w hSw
              go_simp
              (try with_reducible rfl)
            try simp only [Act.put, List.getElem_toArray, List.getElem_cons_succ, List.getElem_cons_zero, List.setIfInBounds_toArray, List.set_cons_zero, List.set_cons_succ]
            refine wpAnyH_take (i := 1) (oi := ?oiq2) (v := ?vq2) ?hiq2 (by kernel_rfl) (by kernel_rfl) (by kernel_rfl) ?hqq2 ?hyq2 hHeld ?restq2
            case hiq2 => exact rfl
            case hqq2 => exact fun _ _ _ h => h
            case hyq2 =>
              refine Or.inl ⟨by rfl, ?_⟩
              intro w hSw
              go_simp
              (try with_reducible rfl)
            try simp only [Act.put, List.getElem_toArray, List.getElem_cons_succ, List.getElem_cons_zero, List.setIfInBounds_toArray, List.set_cons_zero, List.set_cons_succ]
            refine wpAnyH_take (i := 2) (oi := ?oiq3) (v := (.int .i64 l.to)) ?hiq3 (by kernel_rfl) (by kernel_rfl) (by kernel_rfl) ?hqq3 ?hyq3 hHeld ?restq3
            case hiq3 => exact rfl
            case hqq3 => exact fun _ _ _ h => h
            case hyq3 =>
              refine Or.inl ⟨by rfl, ?_⟩
              intro w hSw
              have z0 := hp_below HR2Q.out.lin hSw (hp_lt HR2Q.out.lin)
              have z1 := hp_cell z0 (j := 0) rfl
              have z2 := hp_cell z0 (j := 1) rfl
              have z3 := hp_cell z0 (j := 2) rfl
              have z4 := hp_cell z0 (j := 3) rfl
              clear z0
              go_simp
              (try with_reducible rfl)
            try simp only [Act.put, List.getElem_toArray, List.getElem_cons_succ, List.getElem_cons_zero, List.setIfInBounds_toArray, List.set_cons_zero, List.set_cons_succ]
            refine wpAnyH_take (i := 3) (oi := ?oiq4) (v := ?vq4) ?hiq4 (by kernel_rfl) (by kernel_rfl) (by kernel_rfl) ?hqq4 ?hyq4 hHeld ?restq4
            case hiq4 => exact rfl
            case hqq4 => exact fun _ _ _ h => h
            case hyq4 =>
              refine Or.inl ⟨by rfl, ?_⟩
              intro w hSw
              have z0 := hp_below HR2Q.out.lin hSw (hp_lt HR2Q.out.lin)
              have z1 := hp_cell z0 (j := 0) rfl
              have z2 := hp_cell z0 (j := 1) rfl
              have z3 := hp_cell z0 (j := 2) rfl
              have z4 := hp_cell z0 (j := 3) rfl
              clear z0
              go_simp
              (try with_reducible rfl)
            try simp only [Act.put, List.getElem_toArray, List.getElem_cons_succ, List.getElem_cons_zero, List.setIfInBounds_toArray, List.set_cons_zero, List.set_cons_succ]
            refine wpAnyH_take (i := 4) (oi := ?oiq5) (v := ?vq5) ?hiq5 (by kernel_rfl) (by kernel_rfl) (by kernel_rfl) ?hqq5 ?hyq5 hHeld ?restq5
            case hiq5 => exact rfl
            case hqq5 => exact fun _ _ _ h => h
            case hyq5 =>
              refine Or.inl ⟨by rfl, ?_⟩
              intro w hSw
              go_simp
              (try with_reducible rfl)
            try simp only [Act.put, List.getElem_toArray, List.getElem_cons_succ, List.getElem_cons_zero, List.setIfInBounds_toArray, List.set_cons_zero, List.set_cons_succ]
            refine wpAnyH_ready (rs := [5]) (by kernel_rfl) (by simp) ?_
            refine AllReadyH.cons (o := ?or8_5) ?hr8_5 ?kr8_5 AllReadyH.nil
            case hr8_5 => exact rfl
            case kr8_5 =>
              intro K hK
              go_simp
              have hbl := hHeld.size
              refine (HW.out _ _ _ (ranges_of_own (own_below HR2Q.out.own hHeld (Nat.le_refl _))).1).mono ?_
              rintro e w9 ⟨rfl, hB9⟩
              have HN9 := Lib.hid (own_below HN4d.out hB9 (Nat.le_refl _))
              refine hK.out _ _ (hHeld.trans (hB9.mono hHeld.size)) (fun hHeld => ?_)
              clear hK K
              try simp only [Act.put, List.getElem_toArray, List.getElem_cons_succ, List.getElem_cons_zero, List.setIfInBounds_toArray, List.set_cons_zero, List.set_cons_succ]
              refine wpAnyH_take (i := 6) (oi := ?oiq6) (v := ?vq6) ?hiq6 (by kernel_rfl) (by kernel_rfl) (by kernel_rfl) ?hqq6 ?hyq6 hHeld ?restq6
              case hiq6 => exact rfl
              case hqq6 => exact fun _ _ _ h => h
              case hyq6 =>
                refine Or.inl ⟨by rfl, ?_⟩
                intro w hSw
                go_simp
                (try with_reducible rfl)
              try simp only [Act.put, List.getElem_toArray, List.getElem_cons_succ, List.getElem_cons_zero, List.setIfInBounds_toArray, List.set_cons_zero, List.set_cons_succ]
              refine wpAnyH_ready (rs := [7]) (by kernel_rfl) (by simp) ?_
              refine AllReadyH.cons (o := ?or7_7) ?hr7_7 ?kr7_7 AllReadyH.nil
              case hr7_7 => exact rfl
              case kr7_7 =>
                intro K hK
                refine wp_store_mid 37 (.tmp 132) (.tmp 131) rfl gn (l.to.toNat * 2) #[.int .i64 (cutG (rawG l x)).lo, .int .i64 (cutG (rawG l x)).hi] rfl rfl (own_thereG HN9.out (by rw [HX4.out]; exact u1)) (by kernel_rfl) (two1 _ _) ?_
                refine hK.out _ _ (hHeld.trans ((Off.setCells gn _ _ _).below hgn (by have := hHeld.size; omega))) (fun hHeld => ?_)
                clear hK K
                try simp only [Act.put, List.getElem_toArray, List.getElem_cons_succ, List.getElem_cons_zero, List.setIfInBounds_toArray, List.set_cons_zero, List.set_cons_succ]
                have HR9 := Lib.hid (HR2Q.out.low hHeld)
                have HN10 := Lib.hid (own_setG HN9.out (i := l.to.toNat) (by rw [HX4.out]; exact u1) (cutG (rawG l x)))
                rw [← HAF.out] at HN10
                refine wpAnyH_done (by kernel_rfl) ?_ _
                clear hHeld
                generalize World.setCells _ _ _ _ = W10 at *
                have HA8 := Lib.hid (HR9.out.low ((Below.refl W10.heap.size W10).alloc (Nat.le_refl _) (.cells #[.slice (some ⟨gn, 0, none⟩) 4 cn] 38)))
                have HK8 := Lib.hid (Kept.low (kept_own HN10.out (by omega)) ((Below.refl W10.heap.size W10).alloc (Nat.le_refl _) (.cells #[.slice (some ⟨gn, 0, none⟩) 4 cn] 38)))
                obtain ⟨n8, a8, c8, ys8, hn8, hx8, -, ho8, hys8, -⟩ := HA8.out.doc.at_ (j := (k + 1)) (by rw [HLK.out]; omega)
                have hfew8 : n8 ≤ 100 := by rw [← hn8]; exact Nat.le_trans (HFW.out (k + 1)) (by omega)
                have u8 : W10.cell? ⟨M, (k + 1), none⟩ = some (.slice a8 n8 c8) := hp_cell HR9.out.doc.blk (by simpa using hx8)
                have HO8 := Lib.hid ho8
                have HN8 := Lib.hid hn8
                have HX8 := Lib.hid hx8
                have HY8 := Lib.hid hys8
                have hwz8 : w.heap.size ≤ W10.heap.size := HR9.out.doc.below.size
                clear ho8 hn8 hx8 hys8
                go_wp2_with (at_builtin; go_loud (refine wpList_append_own_at _ rfl (.tmp 140) (.tmp 142) 89 rfl w.heap.size 38 j0 (.slice none 0 0) 1 24 Tryz.underlying89 hjj jz0 jz1 jz2 rfl (by decide) _ _ _ rfl HO8.out ⟨W10.heap.size, 0, none⟩ 1 1 [.slice (some ⟨gn, 0, none⟩) 4 cn] rfl (by rfl) (cell_one_new _ _ _) (by simp [Value.oneCell']) (by unfold maxLen; omega) (by omega) (by simp; omega) ?_))
                intro v8 w8 hown8 hgrow8 _ hat8
                have hb8 := HA8.out.doc.blk3 HO8.out hgrow8
                have HP8 := Lib.hid (HA8.out.push (j := (k + 1)) (by rw [HLK.out]; omega) HN8.out HX8.out HO8.out HY8.out HK8.out hown8 hgrow8 (by simpa using hat8) (Below.refl _ _))
                obtain ⟨e8, f8, rfl⟩ := own_slice hown8
                have m8 : w8.cell? ⟨M, (k + 1), none⟩ = some (.slice a8 n8 c8) := hp_cell hb8 (by simpa using HX8.out)
                have r8 : w8.frozen? ⟨M, (k + 1), none⟩ = false := hp_free hb8 _
                clear hown8 hgrow8 hat8 hb8 u8
                go_wp2_with fail
                generalize w8.setCell _ _ = W5 at *
                clear m8 r8
                have HR5 := HP8
                clear HP8
                go_roundw
                case rel => exact ⟨k + 1, _, by omega, by go_num, by rw [HST.out]; exact HR5.out.doc⟩
                case measure => simp [intOf]; omega
          · rw [go_else h7, skp_else h7] at HST
            replace HST : Hid (dAt ps b (k + 1) = dRecv st (k + 1) (afB l x)) := Lib.hid (by simpa using HST.out)
            have HWR := Lib.hid (fun W => rWrites_A l W)
            rw [show wrB l = false by unfold wrB; rw [hln]; simpa using hw, show wrN l = 0 by unfold wrN; rw [hln]; simp [hw], show vl l = 0 by unfold vl; rw [hln]; rfl] at HWR
            have g7 : (l.op == 7) = false := by simpa using h7
            rw [show afB l x = x by unfold afB; rw [if_neg hw]] at HST
            clear hw
            have H7 := Lib.hid h7
            clear h7
            go_upto_region 15 with fail
            have hB2 : w1.heap.size < (w1.alloc (.cells #[.int .i64 l.op, .int .i64 l.to, .int .i64 l.a, .int .i64 l.b] 42)).heap.size := by simp
            generalize w1.alloc _ = W2 at *
            have hown0 := World.ownsRow_lit (base := W2.heap.size) (e := 37) (size := 2) W2 #[] 0 (Nat.le_refl _) (by simp [maxLen]) (by simp)
            have HC := Lib.hid (fun (j : Nat) (u : Value) (hu : (gc x)[j]? = some u) => show (W2.alloc (.cells #[] 37)).cell? ((⟨gx, 0, none⟩ : Addr).add j) = some u by rw [addr0]; exact cell_alloc_keep (own_cell HR2.out.own hu))
            have hwz : w.heap.size ≤ W2.heap.size := HR2.out.doc.below.size
            go_wp2_with (at_builtin; go_loud (refine wpList_append_own _ rfl (.tmp 116) (.tmp 117) 38 rfl W2.heap.size 37 r0 (.agg #[.int .i64 0, .int .i64 0]) 2 16 Tryz.underlying38 hri rz0 rz1 rz2 rfl (by decide) _ 0 [] rfl hown0 ⟨gx, 0, none⟩ 4 cx (gc x) rfl (by rw [gc_length, HX4.out]) HC.out (gc_one x) (by decide) (by omega) (by simp) ?_))
            intro v3 w3 hown3 hgrow3 _
            obtain ⟨an, cn, rfl⟩ := own_slice hown3
            obtain ⟨gn, rfl⟩ := own_form hown3 (by omega)
            have hgn : W2.heap.size ≤ gn := own_base' hown3
            have hgx : gx < W2.heap.size := own_lt HR2.out.own
            have HB3 := Lib.hid (show Below W2.heap.size W2 w3 from (((Below.refl W2.heap.size W2).alloc (Nat.le_refl _) _).grown hgrow3 (by simp) (by rintro k hk; simp [Value.ownBlock] at hk; omega)))
            have HR3 := Lib.hid (HR2.out.low HB3.out)
            have HON := Lib.hid (own_mono (show w3.ownsRow W2.heap.size 37 2 (.slice (some ⟨gn, 0, none⟩) 4 cn) 4 (gc x) by simpa using hown3) hwz)
            obtain ⟨l00, l01, l02, l03⟩ := HR3.out.cells
            have HR2Q := Lib.hid HR2.out
            clear hown0 hown3 hgrow3 HR2 HC
            go_wp2_with fail
            refine (HWR.out _).mono ?_
            rintro e w4 ⟨rfl, hB4⟩
            have HR4 := Lib.hid (HR3.out.low hB4)
            have HN4 := Lib.hid (own_below HON.out hB4 (Nat.le_refl _))
            have HBQ := Lib.hid (HB3.out.trans (hB4.mono HB3.out.size))
            clear HR3 HON hB4 HB3 l00 l01 l02 l03
            have HA9 := Lib.hid (HR4.out.low ((Below.refl w4.heap.size w4).alloc (Nat.le_refl _) (.cells #[.slice (some ⟨gn, 0, none⟩) 4 cn] 38)))
            have HK9 := Lib.hid (Kept.low (kept_own HN4.out (by omega)) ((Below.refl w4.heap.size w4).alloc (Nat.le_refl _) (.cells #[.slice (some ⟨gn, 0, none⟩) 4 cn] 38)))
            obtain ⟨n9, a9, c9, ys9, hn9, hx9, -, ho9, hys9, -⟩ := HA9.out.doc.at_ (j := (k + 1)) (by rw [HLK.out]; omega)
            have hfew9 : n9 ≤ 100 := by rw [← hn9]; exact Nat.le_trans (HFW.out (k + 1)) (by omega)
            have u9 : w4.cell? ⟨M, (k + 1), none⟩ = some (.slice a9 n9 c9) := hp_cell HR4.out.doc.blk (by simpa using hx9)
            have HO9 := Lib.hid ho9
            have HN9 := Lib.hid hn9
            have HX9 := Lib.hid hx9
            have HY9 := Lib.hid hys9
            have hwz9 : w.heap.size ≤ w4.heap.size := HR4.out.doc.below.size
            clear ho9 hn9 hx9 hys9
            go_wp2_with (at_builtin; go_loud (refine wpList_append_own_at _ rfl (.tmp 140) (.tmp 142) 89 rfl w.heap.size 38 j0 (.slice none 0 0) 1 24 Tryz.underlying89 hjj jz0 jz1 jz2 rfl (by decide) _ _ _ rfl HO9.out ⟨w4.heap.size, 0, none⟩ 1 1 [.slice (some ⟨gn, 0, none⟩) 4 cn] rfl (by rfl) (cell_one_new _ _ _) (by simp [Value.oneCell']) (by unfold maxLen; omega) (by omega) (by simp; omega) ?_))
            intro v9 w9 hown9 hgrow9 _ hat9
            have hb9 := HA9.out.doc.blk3 HO9.out hgrow9
            have HP9 := Lib.hid (HA9.out.push (j := (k + 1)) (by rw [HLK.out]; omega) HN9.out HX9.out HO9.out HY9.out HK9.out hown9 hgrow9 (by simpa using hat9) (Below.refl _ _))
            obtain ⟨e9, f9, rfl⟩ := own_slice hown9
            have m9 : w9.cell? ⟨M, (k + 1), none⟩ = some (.slice a9 n9 c9) := hp_cell hb9 (by simpa using HX9.out)
            have r9 : w9.frozen? ⟨M, (k + 1), none⟩ = false := hp_free hb9 _
            clear hown9 hgrow9 hat9 hb9 u9
            go_wp2_with fail
            generalize w9.setCell _ _ = W5 at *
            clear m9 r9
            have HR5 := HP9
            clear HP9
            go_roundw
            case rel => exact ⟨k + 1, _, by omega, by go_num, by rw [HST.out]; exact HR5.out.doc⟩
            case measure => simp [intOf]; omega
    · obtain rfl : k = ps.length := by omega
      have HI := Lib.hid hI
      have HLN2 := Lib.hid (HLN.out ps.length)
      clear hI
      go_wp2_with fail
      go_ret
      exact ⟨M, xs, by rw [show (dL ps b).length = ps.length + 1 from HLN2.out]; rfl, HI.out⟩

end Go.Proofs.YtmpgaccpdglhkaaGreat
