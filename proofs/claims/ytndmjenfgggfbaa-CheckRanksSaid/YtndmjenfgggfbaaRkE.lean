/- Suspects of package check: contract. -/
import Derived.Test.YtndmjenfgggfbaaRkD
import Derived.Test.YtndmjenfgggfbaaWhich
set_option linter.unusedVariables false
set_option linter.unusedSimpArgs false
namespace Go.Proofs.Ytndmjenfgggfbaa
open Go.RowKit Tinker

/-- The first k suspects are found. -/
def suTo (ps : List L) (ts : List T) (k : Nat) : List Bool := (List.range k).map (suP ps ts) ++ List.replicate (ps.length - k) false
theorem suTo_set {ps : List L} {ts : List T} {k : Nat} (hk : k < ps.length) : (suTo ps ts k).set k (suP ps ts k) = suTo ps ts (k + 1) := by
  unfold suTo
  have e : ps.length - k = (ps.length - (k + 1)) + 1 := by omega
  rw [e, List.replicate_succ, List.range_succ]
  simp [List.set_append]
theorem suTo_all (ps : List L) (ts : List T) : suTo ps ts ps.length = suB ps ts := by unfold suTo suB; simp
theorem suTo_length {ps : List L} {ts : List T} {k : Nat} (hk : k ≤ ps.length) : (suTo ps ts k).length = ps.length := by unfold suTo; simp; omega

/-- The memory of Suspects: the greatest score so far, the scores. -/
structure SusI (G Q : Nat) (gg : Int × Int) (qs : List (Int × Int)) (w W : World) : Prop where
  bg : W.heap[G]? = some (.cells #[.int .i64 gg.1, .int .i64 gg.2] 49 (0, 0))
  bq : W.heap[Q]? = some (.cells (qv qs) 49 (0, 0))
  ne : Q ≠ G
  below : Below w.heap.size w W
theorem SusI.low {G Q : Nat} {gg : Int × Int} {qs : List (Int × Int)} {w W W' : World} (h : SusI G Q gg qs w W) (hb : Below W.heap.size W W') : SusI G Q gg qs w W' :=
  ⟨hp_below h.bg hb (hp_lt h.bg), hp_below h.bq hb (hp_lt h.bq), h.ne, h.below.trans (hb.mono h.below.size)⟩
theorem SusI.put {G Q : Nat} {gg : Int × Int} {qs : List (Int × Int)} {w W : World} (h : SusI G Q gg qs w W) (hG : w.heap.size ≤ G) (q : Int × Int) : SusI G Q q qs w ((W.setCell ⟨G, 0, none⟩ (.int .i64 q.1)).setCell ⟨G, 1, none⟩ (.int .i64 q.2)) :=
  ⟨by have h1 := hp_put (hp_put h.bg 0 (.int .i64 q.1)) 1 (.int .i64 q.2); simpa using h1, hp_set (hp_set h.bq (p := ⟨G, 0, none⟩) h.ne _) (p := ⟨G, 1, none⟩) h.ne _, h.ne, (h.below.setCell (p := ⟨G, 0, none⟩) hG _).setCell (p := ⟨G, 1, none⟩) hG _⟩
theorem SusI.putM {G Q M : Nat} {gg : Int × Int} {qs : List (Int × Int)} {w W : World} (h : SusI G Q gg qs w W) (hM : w.heap.size ≤ M) (h1 : G ≠ M) (h2 : Q ≠ M) (j : Nat) (v : Value) : SusI G Q gg qs w (W.setCell ⟨M, j, none⟩ v) :=
  ⟨hp_set h.bg (p := ⟨M, j, none⟩) h1 _, hp_set h.bq (p := ⟨M, j, none⟩) h2 _, h.ne, h.below.setCell (p := ⟨M, j, none⟩) hM _⟩
theorem okQ_gr {ps : List L} {ts : List T} {k : Nat} {g : Int × Int} (h : grT ps ts k g) (hok : ∀ i, i < ps.length → okQ (scQ ps ts i)) : okQ g := by
  rcases h.2 with rfl | ⟨j, _, hj, rfl⟩
  · exact ⟨by decide, by decide, by decide, by decide⟩
  · exact hok j hj
theorem BlkB.of {M : Nat} {bs : List Bool} {w W : World} (h : W.heap[M]? = some (.cells (bv bs) 4 (0, 0))) (hb : Below w.heap.size w W) : BlkB M bs w W := ⟨h, hb⟩

set_option maxRecDepth 100000 in
set_option maxHeartbeats 4000000 in
theorem suspects_any (a g : Option Addr) (ca cap : Nat) (ps : List L) (ts : List T) (w : World) (hp : LinesAt w a ps) (hts : TestsAt w g ts) (hm : ts.length ≤ 1000) (hml : ∀ t ∈ ts, t.inn.length ≤ 1000) :
    Calls Try.prog 38 #[.slice a ps.length ca, .slice g ts.length cap] w (GivesIntsE (suL ps ts) (vpt ps ts) w) := by
  have HV := Lib.hid (fun w hp hts => validateTestsP_any a g ca cap ps ts w hp hts hm hml)
  by_cases hz : vpt ps ts = 0
  · obtain ⟨h1, h2⟩ := vpt_ok hz
    have h8 := (vp_ok h1).1
    have t8 := (vts_ok h2).1
    have HS := Lib.hid (fun w hp hts => scores_A a g ca cap ps ts w hp hts h1 h2)
    have HSU := Lib.hid (fun (g : Int × Int) (i : Nat) h hi => suP_iff (ps := ps) (ts := ts) (g := g) (i := i) hz h hi)
    have HOK := Lib.hid (fun (i : Nat) (hi : i < ps.length) => scQ_ok (ts := ts) hi t8)
    have HSG := Lib.hid (fun (i : Nat) (hi : i < ps.length) => scL_get (ts := ts) hi)
    have HSL := Lib.hid (scL_length ps ts)
    have H8 := Lib.hid h8
    rw [suL_ok hz, hz]
    rw [hz] at HV
    have HMK := Lib.hid (mkBools ps.length h8)
    generalize scL ps ts = qs at HS HSG HSL
    clear hz h1 h2
    go_enter Try.func38, Try.ntmps38
    go_wp2_with fail
    refine (HV.out _ hp hts).mono ?_
    rintro e w1 ⟨rfl, hB⟩
    go_wp2_with fail
    refine (HS.out _ (hp.below hB (Nat.le_refl _)) (hts.below hB (Nat.le_refl _))).mono ?_
    rintro e w2 ⟨Q, rfl, hq, hB2⟩
    have HB := Lib.hid (hB.trans (hB2.mono hB.size))
    have HQ := Lib.hid hq
    clear hB hB2 hq
    go_wp2_with fail
    have hI : SusI w2.heap.size Q (0, 1) qs w (w2.alloc (.cells #[.int .i64 0, .int .i64 1] 49)) :=
      ⟨hp_new rfl, hp_alloc HQ.out, by have := hp_lt HQ.out; omega, HB.out.alloc HB.out.size _⟩
    have hG := HB.out.size
    generalize w2.alloc (.cells #[.int .i64 0, .int .i64 1] 49) = w3 at hI ⊢
    generalize w2.heap.size = G at hI hG ⊢
    have HI := Lib.hid hI
    clear hI HQ HB
    go_loopw [26] (fun s26 wr => ∃ (k : Nat) (gg : Int × Int), k ≤ ps.length ∧ s26 = .int .i64 k ∧ grT ps ts k gg ∧ SusI G Q gg qs w wr) (fun s26 _ => ps.length - (intOf s26).toNat)
    case atStart => exact ⟨0, (0, 1), Nat.zero_le _, rfl, grT_zero ps ts, HI.out⟩
    case round =>
      clear HI
      obtain ⟨k, gg, hk, rfl, hgr, hI⟩ := hrel
      have HGR := Lib.hid hgr
      have HI := Lib.hid hI
      clear hgr hI
      by_cases hlt : k < ps.length
      · have hq := HSG.out k hlt
        have hokq := HOK.out k hlt
        have hokg := okQ_gr HGR.out HOK.out
        have HGY := Lib.hid (fun h => grT_yes HGR.out hlt h)
        have HGN := Lib.hid (fun h => grT_no (k := k) HGR.out h)
        have HC := Lib.hid (fun w => compare_any (scQ ps ts k) gg hokq hokg w)
        generalize scQ ps ts k = q at hq hokq HGY HGN HC
        have hcm : (0 < cmpI (q.1 * gg.2) (gg.1 * q.2)) ↔ ltQ gg q = true := by rw [cmpI_pos]; unfold ltQ; rw [decide_eq_true_eq]
        generalize cmpI (q.1 * gg.2) (gg.1 * q.2) = R at HC hcm
        obtain ⟨bb, hbb⟩ : ∃ bb, ltQ gg q = bb := ⟨_, rfl⟩
        have hd : decide (0 < R) = bb := by rw [← hbb]; cases hb : ltQ gg q <;> simp [hcm, hb]
        rw [hbb] at HGY HGN
        obtain ⟨q1, q2⟩ := q
        obtain ⟨g1, g2⟩ := gg
        obtain ⟨e0, e1⟩ := qv_get hq
        have c0 := hp_cell HI.out.bq e0
        have c1 := hp_cell HI.out.bq e1
        have hlQ := hp_lt HI.out.bq
        have hlG := hp_lt HI.out.bg
        have hWS := HI.out.below.size
        have hJ := HI.out.low ((Below.refl wr.heap.size wr).alloc (Nat.le_refl _) (.cells #[.int .i64 q1, .int .i64 q2] 49))
        have g0 := hp_cell hJ.bg (j := 0) (by rfl)
        have g1' := hp_cell hJ.bg (j := 1) (by rfl)
        have HJ := Lib.hid hJ
        have HS0 := Lib.hid (show (wr.alloc (.cells #[.int .i64 q1, .int .i64 q2] 49)).heap[wr.heap.size]? = some (.cells #[.int .i64 q1, .int .i64 q2] 49 (0, 0)) from hp_new rfl)
        clear hq hokq hokg hbb hJ hcm e0 e1
        simp only at HC g0 g1'
        go_wp2_with fail
        refine (HC.out _).mono ?_
        rintro e w5 ⟨rfl, hB5⟩
        have HJ5 := Lib.hid (HJ.out.low hB5)
        have hS5 := hp_below HS0.out hB5 (hp_lt HS0.out)
        have s0 := hp_cell hS5 (j := 0) (by rfl)
        have s1 := hp_cell hS5 (j := 1) (by rfl)
        clear hB5 hS5 c0 c1 g0 g1' HJ HS0 HC
        cases bb
        · have HY := Lib.hid (HGN.out rfl)
          go_wp2_with fail
          go_roundw
          case rel => exact ⟨k + 1, (g1, g2), by omega, by go_num, HY.out, HJ5.out⟩
          case measure => first | (simp [intOf]; done) | (simp [intOf]; omega)
        · have HY := Lib.hid (HGY.out rfl)
          have g0 := hp_cell HJ5.out.bg (j := 0) (by rfl)
          have g1' := hp_cell HJ5.out.bg (j := 1) (by rfl)
          have f0 := hp_free HJ5.out.bg 0
          have f1 := hp_free HJ5.out.bg 1
          go_wp2_with fail
          go_roundw
          case rel => exact ⟨k + 1, (q1, q2), by omega, by go_num, HY.out, HJ5.out.put hG (q1, q2)⟩
          case measure => first | (simp [intOf]; done) | (simp [intOf]; omega)
      · obtain rfl : k = ps.length := by omega
        have HSI := Lib.hid (fun (i : Nat) (hi : i < ps.length) => HSU.out gg i HGR.out hi)
        have hokg := okQ_gr HGR.out HOK.out
        have hmk := HMK.out
        clear hlt hk HGR HSU
        go_wp2_with fail
        have hM : wr.heap.size = wr.heap.size := rfl
        have hI2 : SusI G Q gg qs w (wr.alloc (.cells (bv (List.replicate ps.length false)) 4)) := HI.out.low ((Below.refl _ _).alloc (Nat.le_refl _) _)
        have hM2 : (wr.alloc (.cells (bv (List.replicate ps.length false)) 4)).heap[wr.heap.size]? = some (.cells (bv (suTo ps ts 0)) 4 (0, 0)) := by
          unfold suTo; simpa using hp_new (w := wr) (o := .cells (bv (List.replicate ps.length false)) 4) rfl
        have hlM : w.heap.size ≤ wr.heap.size := HI.out.below.size
        have hGM : G ≠ wr.heap.size := by have := hp_lt HI.out.bg; omega
        have hQM : Q ≠ wr.heap.size := by have := hp_lt HI.out.bq; omega
        clear hmk HMK HI
        generalize wr.alloc (.cells (bv (List.replicate ps.length false)) 4) = w6 at hI2 hM2 ⊢
        generalize wr.heap.size = M at hM2 hlM hGM hQM ⊢
        have HI := Lib.hid hI2
        have HM := Lib.hid hM2
        clear hI2 hM2 hM
        go_loopw [41] (fun s41 wr => ∃ (k : Nat), k ≤ ps.length ∧ s41 = .int .i64 k ∧ SusI G Q gg qs w wr ∧ wr.heap[M]? = some (.cells (bv (suTo ps ts k)) 4 (0, 0))) (fun s41 _ => ps.length - (intOf s41).toNat)
        case atStart => exact ⟨0, Nat.zero_le _, rfl, HI.out, HM.out⟩
        case round =>
          clear HI HM
          obtain ⟨k, hk, rfl, hI, hM⟩ := hrel
          have HI := Lib.hid hI
          have HM := Lib.hid hM
          clear hI hM
          by_cases hlt : k < ps.length
          · have hq := HSG.out k hlt
            have HSP := Lib.hid (HSI.out k hlt)
            have HST := Lib.hid (suTo_set (ts := ts) hlt)
            have hokq := HOK.out k hlt
            generalize suP ps ts k = sp at HSP HST
            generalize scQ ps ts k = q at hq HSP hokq
            obtain ⟨q1, q2⟩ := q
            obtain ⟨g1, g2⟩ := gg
            obtain ⟨e0, e1⟩ := qv_get hq
            have c0 := hp_cell HI.out.bq e0
            have c1 := hp_cell HI.out.bq e1
            have hlQ := hp_lt HI.out.bq
            have hlG := hp_lt HI.out.bg
            have hlM2 := hp_lt HM.out
            have hJ := HI.out.low ((Below.refl wr.heap.size wr).alloc (Nat.le_refl _) (.cells #[.int .i64 q1, .int .i64 q2] 49))
            have g0 := hp_cell hJ.bg (j := 0) (by rfl)
            have g1' := hp_cell hJ.bg (j := 1) (by rfl)
            have HJ := Lib.hid hJ
            have m1 := hp_cell HM.out (bv_get (suTo ps ts k) k (by rw [suTo_length (by omega)]; exact hlt))
            have m2 := hp_free HM.out k
            clear hq hJ e0 e1 HJ
            simp only at g0 g1' HSP
            by_cases h1 : q1 = g1
            · by_cases h2 : q2 = g2
              · by_cases h3 : 0 < q1
                · have HSV := Lib.hid (show true = sp by rw [HSP.out, decide_eq_true h1, decide_eq_true h2, decide_eq_true h3]; rfl)
                  subst h1
                  subst h2
                  go_wp2_with fail
                  go_roundw
                  case rel => exact ⟨k + 1, by omega, by go_num, (HI.out.putM hlM hGM hQM k (.bool true)).low ((Below.refl _ _).alloc (Nat.le_refl _) _), by rw [← HST.out, ← HSV.out]; exact hp_alloc (by have h := hp_put HM.out k (.bool true); rw [bv_set] at h; exact h)⟩
                  case measure => first | (simp [intOf]; done) | (simp [intOf]; omega)
                · have HSV := Lib.hid (show false = sp by rw [HSP.out, decide_eq_true h1, decide_eq_true h2, decide_eq_false h3]; rfl)
                  subst h1
                  subst h2
                  go_wp2_with fail
                  go_roundw
                  case rel => exact ⟨k + 1, by omega, by go_num, (HI.out.putM hlM hGM hQM k (.bool false)).low ((Below.refl _ _).alloc (Nat.le_refl _) _), by rw [← HST.out, ← HSV.out]; exact hp_alloc (by have h := hp_put HM.out k (.bool false); rw [bv_set] at h; exact h)⟩
                  case measure => first | (simp [intOf]; done) | (simp [intOf]; omega)
              · have HSV := Lib.hid (show false = sp by rw [HSP.out, decide_eq_false h2]; simp)
                subst h1
                go_wp2_with fail
                go_roundw
                case rel => exact ⟨k + 1, by omega, by go_num, (HI.out.putM hlM hGM hQM k (.bool false)).low ((Below.refl _ _).alloc (Nat.le_refl _) _), by rw [← HST.out, ← HSV.out]; exact hp_alloc (by have h := hp_put HM.out k (.bool false); rw [bv_set] at h; exact h)⟩
                case measure => first | (simp [intOf]; done) | (simp [intOf]; omega)
            · have HSV := Lib.hid (show false = sp by rw [HSP.out, decide_eq_false h1]; simp)
              go_wp2_with fail
              go_roundw
              case rel => exact ⟨k + 1, by omega, by go_num, (HI.out.putM hlM hGM hQM k (.bool false)).low ((Below.refl _ _).alloc (Nat.le_refl _) _), by rw [← HST.out, ← HSV.out]; exact hp_alloc (by have h := hp_put HM.out k (.bool false); rw [bv_set] at h; exact h)⟩
              case measure => first | (simp [intOf]; done) | (simp [intOf]; omega)
          · obtain rfl : k = ps.length := by omega
            rw [suTo_all] at HM
            have HB := Lib.hid HI.out.below
            have HP := Lib.hid (places_any M 0 (suB ps ts).length (suB ps ts) wr (BlkB.of HM.out (Below.refl _ _)).bools (hp_lt HM.out) (by rw [suB_length]; have := H8.out; omega))
            rw [suB_length] at HP
            clear HI HM
            go_wp2_with fail
            refine HP.out.mono ?_
            intro e w1 hG
            obtain ⟨a1, c1, rfl, ho, hB1⟩ := hG.wide HB.out
            have HO := Lib.hid ho
            clear ho hG
            go_wp2_with fail
            go_ret2
            exact ⟨a1, c1, rfl, HO.out, hB1⟩
  · rw [suL_no hz]
    generalize vpt ps ts = c at HV hz
    have hz1 : (c != 0) = true := by simpa using hz
    have hz2 : (c == 0) = false := by simpa using hz
    clear hz
    go_enter Try.func38, Try.ntmps38
    go_wp2_with fail
    refine (HV.out _ hp hts).mono ?_
    rintro e w1 ⟨rfl, hB⟩
    go_wp2_with fail
    go_ret2
    exact givesIntsE_nil hB

end Go.Proofs.Ytndmjenfgggfbaa
