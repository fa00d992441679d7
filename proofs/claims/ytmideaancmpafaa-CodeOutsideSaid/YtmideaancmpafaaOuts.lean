/- CodeOutside: the walk. -/
import Derived.Test.YtmideaancmpafaaForC
import Derived.Test.YtmideaancmpafaaHas
import Derived.Test.YtmideaancmpafaaSlcs
import Derived.Test.YtmideaancmpafaaFrcs
import Derived.Test.YtmideaancmpafaaRuns
set_option linter.unusedVariables false
set_option linter.unusedSimpArgs false
namespace Go.Proofs.Ytmideaancmpafaa
open Go.RowKit Tinker

/-- The two boxed arguments. -/
structure BoxO (x y : Nat) (b c d : Option Addr) (k n m cb cc cd : Nat) (r : Int) (w W : World) : Prop where
  bj : W.heap[x]? = some (.cells #[.slice b k cb, .int .i64 r] 50 (0, 0))
  bf : W.heap[y]? = some (.cells #[.slice c n cc, .slice d m cd] 46 (0, 0))
  below : Below w.heap.size w W
theorem BoxO.low {x y : Nat} {b c d : Option Addr} {k n m cb cc cd : Nat} {r : Int} {w W W' : World} (h : BoxO x y b c d k n m cb cc cd r w W) (hb : Below W.heap.size W W') : BoxO x y b c d k n m cb cc cd r w W' :=
  ⟨hp_below h.bj hb (hp_lt h.bj), hp_below h.bf hb (hp_lt h.bf), h.below.trans (hb.mono h.below.size)⟩
theorem BoxO.drew {x y : Nat} {b c d : Option Addr} {k n m cb cc cd : Nat} {r : Int} {w W : World} (h : BoxO x y b c d k n m cb cc cd r w W) : BoxO x y b c d k n m cb cc cd r w W.drew := ⟨hp_drew h.bj, hp_drew h.bf, h.below.drew⟩
theorem BoxO.c0 {x y : Nat} {b c d : Option Addr} {k n m cb cc cd : Nat} {r : Int} {w W : World} (h : BoxO x y b c d k n m cb cc cd r w W) : W.cell? ⟨x, 0, none⟩ = some (.slice b k cb) := hp_cell h.bj (by rfl)
theorem BoxO.c1 {x y : Nat} {b c d : Option Addr} {k n m cb cc cd : Nat} {r : Int} {w W : World} (h : BoxO x y b c d k n m cb cc cd r w W) : W.cell? ⟨x, 1, none⟩ = some (.int .i64 r) := hp_cell h.bj (by rfl)
theorem BoxO.d0 {x y : Nat} {b c d : Option Addr} {k n m cb cc cd : Nat} {r : Int} {w W : World} (h : BoxO x y b c d k n m cb cc cd r w W) : W.cell? ⟨y, 0, none⟩ = some (.slice c n cc) := hp_cell h.bf (by rfl)
theorem BoxO.d1 {x y : Nat} {b c d : Option Addr} {k n m cb cc cd : Nat} {r : Int} {w W : World} (h : BoxO x y b c d k n m cb cc cd r w W) : W.cell? ⟨y, 1, none⟩ = some (.slice d m cd) := hp_cell h.bf (by rfl)

set_option maxRecDepth 100000 in
set_option maxHeartbeats 4000000 in
theorem codeOutside_walk (a : Option Addr) (ca : Nat) (ps : List L) (b : Option Addr) (cb : Nat) (s : List Int) (r : Int) (c : Option Addr) (cc : Nat) (ls : List Int) (d : Option Addr) (cd : Nat) (vs : List Int) (w : World) (hp : LinesAt w a ps) (hc : a = none → ca = 0) (hs : IntsAt w b s) (hd : b = none → cb = 0) (hl : IntsAt w c ls) (he : c = none → cc = 0) (hv : IntsAt w d vs) (hf : d = none → cd = 0) :
    Calls Try.prog 9 #[.slice a ps.length ca, .agg #[.slice b s.length cb, .int .i64 r], .agg #[.slice c ls.length cc, .slice d vs.length cd]] w fun e w' => e = .returned (.bool true) ∧ Below w.heap.size w w' := by
  have HL := Lib.hid (fun w => long_any a ps.length ca w)
  have HM := Lib.hid (fun w => large_any b s.length cb w)
  have HM2 := Lib.hid (fun w => large_any c ls.length cc w)
  have HM3 := Lib.hid (fun w => large_any d vs.length cd w)
  have hI : BoxO w.heap.size (w.heap.size + 1) b c d s.length ls.length vs.length cb cc cd r w ((w.alloc (.cells #[.slice b s.length cb, .int .i64 r] 50)).alloc (.cells #[.slice c ls.length cc, .slice d vs.length cd] 46)) :=
    ⟨hp_alloc (hp_new rfl), hp_new (by simp), ((Below.refl _ _).alloc (Nat.le_refl _) _).alloc (by simp) _⟩
  have x0 := hI.c0
  have x1 := hI.c1
  have y0 := hI.d0
  have y1 := hI.d1
  have HI := Lib.hid hI
  clear hc hd he hf hI
  by_cases hbig : ps.length ≤ 100 ∧ s.length ≤ 100 ∧ ls.length ≤ 100 ∧ vs.length ≤ 100
  · obtain ⟨g1, g2, g3, g4⟩ := hbig
    rw [show decide ((100 : Int) < (ps.length : Int)) = false by simp; omega] at HL
    rw [show decide ((100 : Int) < (s.length : Int)) = false by simp; omega] at HM
    rw [show decide ((100 : Int) < (ls.length : Int)) = false by simp; omega] at HM2
    rw [show decide ((100 : Int) < (vs.length : Int)) = false by simp; omega] at HM3
    have HB := Lib.hid (fun w hp hs => slice_any a b ca cb ps s r w hp hs (by omega))
    have HR := Lib.hid (fun w hp hs => run_any a b ca cb ps s w hp hs (by omega))
    have HF := Lib.hid (fun w hp hs hl hv => force_any a b c d ca cb cc cd ps s ls vs w hp hs hl hv (by omega) (by omega) (by omega))
    have hlen := slA_len ps s r
    have HO := Lib.hid (fun h1 h2 h3 => outside_fL (p := ps) (s := s) (ls := ls) (vs := vs) (r := r) h1 h2 h3)
    have HVR := Lib.hid (fun h => slCode_ok (p := ps) (s := s) (r := r) h)
    have HRL := Lib.hid (fun (h : vr ps s = 0) => show runL ps s = runE ps s by unfold runL; rw [if_pos h])
    have HR4 := Lib.hid (fun h => (runE_ok (p := ps) (s := s) h).1)
    have HF4 := Lib.hid (fun h => (fA_ok (p := ps) (s := s) (ls := ls) (vs := vs) h).1)
    generalize runL ps s = e1 at HR HRL
    generalize runE ps s = e2 at HRL HR4 HO
    generalize fA ps s ls vs = e3 at HF HO HF4
    generalize fC ps s ls vs = c3 at HF HO HF4
    generalize slA ps s r = sl at HB hlen HO
    generalize vr ps s = c2 at HR HVR HRL HR4
    generalize slCode ps s r = c1 at HB HO HVR
    go_enter Try.func9, Try.ntmps9
    go_wp2_with fail
    refine (HL.out _).mono ?_
    rintro e w' ⟨rfl, rfl⟩
    go_wp2_with fail
    refine (HM.out _).mono ?_
    rintro e w' ⟨rfl, rfl⟩
    go_wp2_with fail
    refine (HM2.out _).mono ?_
    rintro e w' ⟨rfl, rfl⟩
    go_wp2_with fail
    refine (HM3.out _).mono ?_
    rintro e w' ⟨rfl, rfl⟩
    go_wp2_with fail
    refine (HB.out _ (hp.below HI.out.below (Nat.le_refl _)) (hs.below HI.out.below (Nat.le_refl _))).mono ?_
    intro e w1 hG
    obtain ⟨a1, k1, rfl, hi1, hB1⟩ := hG.weak
    have HI1 := Lib.hid (HI.out.low hB1)
    have HS1 := Lib.hid hi1
    clear hi1 hG x0 x1 y0 y1 HI hB1
    have x0 := HI1.out.c0
    have x1 := HI1.out.c1
    have y0 := HI1.out.d0
    have y1 := HI1.out.d1
    go_wp2_with fail
    refine (HR.out _ (hp.below HI1.out.below (Nat.le_refl _)) (hs.below HI1.out.below (Nat.le_refl _))).mono ?_
    intro e w2 hG
    obtain ⟨a2, k2, rfl, hi2, hB2⟩ := hG.weak
    have HI2 := Lib.hid (HI1.out.low hB2)
    have HS2 := Lib.hid (HS1.out.below hB2 (Nat.le_refl _))
    have HE2 := Lib.hid hi2
    clear hi2 hG x0 x1 y0 y1 HI1 HS1 hB2
    have x0 := HI2.out.c0
    have x1 := HI2.out.c1
    have y0 := HI2.out.d0
    have y1 := HI2.out.d1
    go_wp2_with fail
    refine (HF.out _ (hp.below HI2.out.below (Nat.le_refl _)) (hs.below HI2.out.below (Nat.le_refl _)) (hl.below HI2.out.below (Nat.le_refl _)) (hv.below HI2.out.below (Nat.le_refl _))).mono ?_
    intro e w3 hG
    obtain ⟨a3, k3, rfl, hi3, hB3⟩ := hG.weak
    have HI := Lib.hid (HI2.out.low hB3)
    have HS3 := Lib.hid (HS2.out.below hB3 (Nat.le_refl _))
    have HE3 := Lib.hid (HE2.out.below hB3 (Nat.le_refl _))
    have HF3 := Lib.hid hi3
    clear hi3 hG x0 x1 y0 y1 HI2 HS2 HE2 hB3
    have x0 := HI.out.c0
    have x1 := HI.out.c1
    have y0 := HI.out.d0
    have y1 := HI.out.d1
    by_cases hz1 : c1 = 0
    · subst hz1
      obtain ⟨hz2, hr⟩ := HVR.out rfl
      obtain ⟨r0, r3⟩ := isReg_iff.1 hr
      have he12 := HRL.out hz2
      have h24 := HR4.out hz2
      subst hz2
      subst he12
      by_cases hz3 : c3 = 0
      · subst hz3
        have h34 := HF4.out rfl
        have HO2 := Lib.hid (fun h => HO.out rfl rfl h)
        have H24 := Lib.hid h24
        have H34 := Lib.hid h34
        clear HVR HRL HR4 HF4 HO h24 h34 hr
        go_wp2_with fail
        go_loopw [13] (fun s13 wr => ∃ k : Nat, k ≤ ls.length ∧ s13 = .int .i64 k ∧ (ls.take k).all (fun n => !hasB sl n) = true ∧ wr = w3) (fun s13 _ => ls.length - (intOf s13).toNat)
        case atStart => exact ⟨0, Nat.zero_le _, rfl, by simp, rfl⟩
        case round =>
          obtain ⟨k, hk, rfl, hall, rfl⟩ := hrel
          have HA := Lib.hid hall
          clear hall
          by_cases hlt : k < ls.length
          · obtain ⟨lb, lo, n, rfl, hlb, hn, n0⟩ := (hl.below HI.out.below (Nat.le_refl _)).at_ hlt
            have HN := Lib.hid hn
            clear hn
            go_wp2_with fail
            refine (rHas_any _ _ sl n _ HS3.out (by omega)).mono ?_
            rintro e w4 ⟨rfl, rfl⟩
            cases hh : hasB sl n
            · have HH := Lib.hid (show (!hasB sl n) = true by rw [hh]; rfl)
              clear hh
              go_wp2_with fail
              go_roundw
              case rel => exact ⟨k + 1, by omega, by go_num, all_snoc HA.out HN.out HH.out, trivial⟩
              case measure => simp [intOf]; omega
            · clear hh
              go_wp2_with fail
              refine (known_true _).mono ?_
              rintro e wk ⟨rfl, hBk⟩
              go_wp2_with fail
              go_ret
              exact ⟨rfl, (HI.out.low hBk).below⟩
          · have heq := HO2.out (all_whole HA.out hlt)
            obtain ⟨eb, eo, x, rfl, hlb, hx, cx⟩ := HE3.out.at_ (show r.toNat < e1.length by rw [H24.out]; omega)
            obtain ⟨fb, fo, y, rfl, hlb2, hy, cy⟩ := HF3.out.at_ (show r.toNat < e3.length by rw [H34.out]; omega)
            rw [getD_of_get hx, getD_of_get hy] at heq
            subst heq
            have l1 : r < (e1.length : Int) := by rw [H24.out]; omega
            have l2 : r < (e3.length : Int) := by rw [H34.out]; omega
            have xx : (x == x) = true := by simp
            clear hx hy HO2 HA
            go_wp2_with fail
            go_region_held3 (fun w' => w'.cell? ⟨eb, eo + r.toNat, none⟩ = some (.int .i64 x) ∧ w'.cell? ⟨fb, fo + r.toNat, none⟩ = some (.int .i64 x)) (first | exact ⟨cx, cy⟩ | exact ⟨(hBa.cell (p := ⟨eb, _, none⟩) hlb).trans cx, (hBa.cell (p := ⟨fb, _, none⟩) hlb2).trans cy⟩ | go_keep) ((go_at_call 17; refine (known_true _).mono ?_; rintro e wa ⟨rfl, hBa⟩))
            all_goals go_wp2_with fail
            all_goals go_ret
            all_goals exact ⟨rfl, (HI.out.drew.low hBa).below⟩
      · have hz3' : (c3 != 0) = true := by simpa using hz3
        have hz3'' : (c3 == 0) = false := by simpa using hz3
        clear HVR HRL HR4 HF4 HO hz3 h24 hr
        go_wp2_with fail
        refine (known_true _).mono ?_
        rintro e wk ⟨rfl, hBk⟩
        go_wp2_with fail
        go_ret
        exact ⟨rfl, (HI.out.low hBk).below⟩
    · have hz1' : (c1 != 0) = true := by simpa using hz1
      have hz1'' : (c1 == 0) = false := by simpa using hz1
      clear HVR HRL HR4 HF4 HO hz1
      go_wp2_with fail
      refine (known_true _).mono ?_
      rintro e wk ⟨rfl, hBk⟩
      go_wp2_with fail
      go_ret
      exact ⟨rfl, (HI.out.low hBk).below⟩
  · have hc : 100 < ps.length ∨ (ps.length ≤ 100 ∧ 100 < s.length) ∨ (ps.length ≤ 100 ∧ s.length ≤ 100 ∧ 100 < ls.length) ∨ (ps.length ≤ 100 ∧ s.length ≤ 100 ∧ ls.length ≤ 100 ∧ 100 < vs.length) := by omega
    clear hbig hp hs hl hv
    rcases hc with g1 | ⟨g1, g2⟩ | ⟨g1, g2, g3⟩ | ⟨g1, g2, g3, g4⟩
    · rw [show decide ((100 : Int) < (ps.length : Int)) = true by simp; omega] at HL
      go_enter Try.func9, Try.ntmps9
      go_wp2_with fail
      refine (HL.out _).mono ?_
      rintro e w' ⟨rfl, rfl⟩
      go_wp2_with fail
      refine (known_true _).mono ?_
      rintro e wk ⟨rfl, hBk⟩
      go_wp2_with fail
      go_ret
      exact ⟨rfl, (HI.out.low hBk).below⟩
    · rw [show decide ((100 : Int) < (ps.length : Int)) = false by simp; omega] at HL
      rw [show decide ((100 : Int) < (s.length : Int)) = true by simp; omega] at HM
      go_enter Try.func9, Try.ntmps9
      go_wp2_with fail
      refine (HL.out _).mono ?_
      rintro e w' ⟨rfl, rfl⟩
      go_wp2_with fail
      refine (HM.out _).mono ?_
      rintro e w' ⟨rfl, rfl⟩
      go_wp2_with fail
      refine (known_true _).mono ?_
      rintro e wk ⟨rfl, hBk⟩
      go_wp2_with fail
      go_ret
      exact ⟨rfl, (HI.out.low hBk).below⟩
    · rw [show decide ((100 : Int) < (ps.length : Int)) = false by simp; omega] at HL
      rw [show decide ((100 : Int) < (s.length : Int)) = false by simp; omega] at HM
      rw [show decide ((100 : Int) < (ls.length : Int)) = true by simp; omega] at HM2
      go_enter Try.func9, Try.ntmps9
      go_wp2_with fail
      refine (HL.out _).mono ?_
      rintro e w' ⟨rfl, rfl⟩
      go_wp2_with fail
      refine (HM.out _).mono ?_
      rintro e w' ⟨rfl, rfl⟩
      go_wp2_with fail
      refine (HM2.out _).mono ?_
      rintro e w' ⟨rfl, rfl⟩
      go_wp2_with fail
      refine (known_true _).mono ?_
      rintro e wk ⟨rfl, hBk⟩
      go_wp2_with fail
      go_ret
      exact ⟨rfl, (HI.out.low hBk).below⟩
    · rw [show decide ((100 : Int) < (ps.length : Int)) = false by simp; omega] at HL
      rw [show decide ((100 : Int) < (s.length : Int)) = false by simp; omega] at HM
      rw [show decide ((100 : Int) < (ls.length : Int)) = false by simp; omega] at HM2
      rw [show decide ((100 : Int) < (vs.length : Int)) = true by simp; omega] at HM3
      go_enter Try.func9, Try.ntmps9
      go_wp2_with fail
      refine (HL.out _).mono ?_
      rintro e w' ⟨rfl, rfl⟩
      go_wp2_with fail
      refine (HM.out _).mono ?_
      rintro e w' ⟨rfl, rfl⟩
      go_wp2_with fail
      refine (HM2.out _).mono ?_
      rintro e w' ⟨rfl, rfl⟩
      go_wp2_with fail
      refine (HM3.out _).mono ?_
      rintro e w' ⟨rfl, rfl⟩
      go_wp2_with fail
      refine (known_true _).mono ?_
      rintro e wk ⟨rfl, hBk⟩
      go_wp2_with fail
      go_ret
      exact ⟨rfl, (HI.out.low hBk).below⟩

end Go.Proofs.Ytmideaancmpafaa
