/- Several texts in one. -/
import Derived.Test.YtikblaebfpdngaaGreatHtL
import Derived.Test.YtikblaebfpdngaaGreatHdE
import Derived.Test.YtikblaebfpdngaaGreatFxW
import Derived.Test.YtikblaebfpdngaaGreatChkP
import Derived.Test.YtikblaebfpdngaaGreatFxC
import Derived.Test.YtikblaebfpdngaaGreatPtD
import Derived.BigQuiet
import Derived.DeepKeys
import Derived.Test.YtikblaebfpdngaaGreatLng7
import Derived.Test.YtikblaebfpdngaaGreatMny
/- validateTests, passes, Green of story: contracts. -/
set_option linter.unusedVariables false
set_option linter.unusedSimpArgs false
namespace Go.Proofs.YtikblaebfpdngaaGreat
open Go.RowKit Go.Shelf Tinker
attribute [local go_sem] Oper.semAt_some

/-- The errors of a history and tests. -/
def vht (ps : List L) (h : List (List E)) (ts : List T) : Int := fe (vst ps h) (vts ts)
/-- The test passes behind the first n repairs. -/
def paB (ps : List L) (h : List (List E)) (t : T) (n : Nat) : Bool := pas (plyF ps (h.take n)) t
def grR (ps : List L) (h : List (List E)) (t : T) : List Int := if vht ps h [t] = 0 then ints ((List.range (h.length + 1)).filter (paB ps h t)) else []
theorem vht_ok {ps : List L} {h : List (List E)} {ts : List T} (e : vht ps h ts = 0) : vst ps h = 0 ∧ vts ts = 0 := by
  unfold vht fe at e
  split at e
  · exact ⟨by assumption, e⟩
  · exact absurd e (by assumption)
theorem vht_t {ps : List L} {h : List (List E)} {t : T} (e : vht ps h [t] = 0) : isT t = true := (vts_ok (vht_ok e).2).2 t (by simp)
theorem mkP1 (w : World) : (Instr.makeSlice 75 (.int .i64 1) (.int .i64 1)).run Tryz.prog w = .ok (.slice (some ⟨w.heap.size, 0, none⟩) 1 1) (w.alloc (.cells (bv (List.replicate 1 false)) 4)) := by kernel_rfl
theorem mkP2 (w : World) : (Instr.makeSlice 75 (.int .i64 2) (.int .i64 2)).run Tryz.prog w = .ok (.slice (some ⟨w.heap.size, 0, none⟩) 2 2) (w.alloc (.cells (bv (List.replicate 2 false)) 4)) := by kernel_rfl
theorem mkP3 (w : World) : (Instr.makeSlice 75 (.int .i64 3) (.int .i64 3)).run Tryz.prog w = .ok (.slice (some ⟨w.heap.size, 0, none⟩) 3 3) (w.alloc (.cells (bv (List.replicate 3 false)) 4)) := by kernel_rfl
theorem mkP4 (w : World) : (Instr.makeSlice 75 (.int .i64 4) (.int .i64 4)).run Tryz.prog w = .ok (.slice (some ⟨w.heap.size, 0, none⟩) 4 4) (w.alloc (.cells (bv (List.replicate 4 false)) 4)) := by kernel_rfl
theorem mkP5 (w : World) : (Instr.makeSlice 75 (.int .i64 5) (.int .i64 5)).run Tryz.prog w = .ok (.slice (some ⟨w.heap.size, 0, none⟩) 5 5) (w.alloc (.cells (bv (List.replicate 5 false)) 4)) := by kernel_rfl
theorem mkP6 (w : World) : (Instr.makeSlice 75 (.int .i64 6) (.int .i64 6)).run Tryz.prog w = .ok (.slice (some ⟨w.heap.size, 0, none⟩) 6 6) (w.alloc (.cells (bv (List.replicate 6 false)) 4)) := by kernel_rfl
theorem mkP7 (w : World) : (Instr.makeSlice 75 (.int .i64 7) (.int .i64 7)).run Tryz.prog w = .ok (.slice (some ⟨w.heap.size, 0, none⟩) 7 7) (w.alloc (.cells (bv (List.replicate 7 false)) 4)) := by kernel_rfl
theorem mkP8 (w : World) : (Instr.makeSlice 75 (.int .i64 8) (.int .i64 8)).run Tryz.prog w = .ok (.slice (some ⟨w.heap.size, 0, none⟩) 8 8) (w.alloc (.cells (bv (List.replicate 8 false)) 4)) := by kernel_rfl
theorem mkP9 (w : World) : (Instr.makeSlice 75 (.int .i64 9) (.int .i64 9)).run Tryz.prog w = .ok (.slice (some ⟨w.heap.size, 0, none⟩) 9 9) (w.alloc (.cells (bv (List.replicate 9 false)) 4)) := by kernel_rfl
theorem mkBools1 (n N : Nat) (hn : n ≤ 8) (hN : N = n + 1) (w : World) : (Instr.makeSlice 75 (.int .i64 ((n : Int) + 1)) (.int .i64 ((n : Int) + 1))).run Tryz.prog w = .ok (.slice (some ⟨w.heap.size, 0, none⟩) N N) (w.alloc (.cells (bv (List.replicate N false)) 4)) := by
  subst hN
  have c : n = 0 ∨ n = 1 ∨ n = 2 ∨ n = 3 ∨ n = 4 ∨ n = 5 ∨ n = 6 ∨ n = 7 ∨ n = 8 := by omega
  rcases c with rfl | rfl | rfl | rfl | rfl | rfl | rfl | rfl | rfl
  · exact mkP1 w
  · exact mkP2 w
  · exact mkP3 w
  · exact mkP4 w
  · exact mkP5 w
  · exact mkP6 w
  · exact mkP7 w
  · exact mkP8 w
  · exact mkP9 w

set_option maxRecDepth 100000 in
set_option maxHeartbeats 1000000 in
theorem stVts_any (a g u : Option Addr) (ca cg cu : Nat) (ps : List L) (h : List (List E)) (ts : List T) (w : World) (hp : LinesAt w a ps) (hh : RowsEAt w g h) (ht : TestsAt w u ts) (hpl : ps.length ≤ 1000) (hhl : h.length ≤ 1000) (hm : ∀ x ∈ h, x.length ≤ 1000) (htl : ts.length ≤ 1000) (hml : ∀ t ∈ ts, t.inn.length ≤ 1000) :
    Calls Tryz.prog 46 #[.slice a ps.length ca, .slice g h.length cg, .slice u ts.length cu] w fun e w' => e = .returned (.int .i64 (vht ps h ts)) ∧ Below w.heap.size w w' := by
  have HV := Lib.hid (stVal_any a g ca cg ps h w hp hh hpl hhl hm)
  have HT := Lib.hid (fun w h => validateTests_C u cu ts w h htl hml)
  have HU := Lib.hid ht
  have HX := Lib.hid (show vht ps h ts = fe (vst ps h) (vts ts) from rfl)
  rw [HX.out]
  clear hp hh hm ht hml HX
  generalize vst ps h = c at *
  generalize vts ts = d at *
  go_enter Tryz.func46, Tryz.ntmps46
  go_wp2_with fail
  refine HV.out.mono ?_
  rintro e w1 ⟨rfl, hB⟩
  have HB := Lib.hid hB
  clear hB
  go_wp2_with fail
  refine (HT.out _ (HU.out.below HB.out (Nat.le_refl _))).mono ?_
  rintro e w2 ⟨rfl, hB⟩
  have HB2 := Lib.hid (HB.out.trans (hB.mono HB.out.size))
  clear hB
  go_wp2_with fail
  refine (firstError_two _ _ _ _).mono ?_
  rintro e w3 ⟨rfl, rfl⟩
  go_wp2_with fail
  go_ret
  exact ⟨rfl, HB2.out.alloc HB2.out.size _⟩

set_option maxRecDepth 100000 in
set_option maxHeartbeats 2000000 in
theorem stPas_any (g a b : Option Addr) (cg ca cb : Nat) (zs : List (List E)) (ps : List L) (n : Nat) (t : T) (w : World) (hh : RowsEAt w g zs) (hp : LinesAt w a ps) (hs : IntsAt w b t.inn) (hil : t.inn.length ≤ 1000) (hz : OkZ ps zs) (hl : zs.length ≤ 8) (hc : zs.length ≤ cg) (hn : n ≤ zs.length) (ht : isT t = true) :
    Calls Tryz.prog 47 #[.slice g zs.length cg, .slice a ps.length ca, .int .i64 n, .agg #[.slice b t.inn.length cb, .int .i64 t.out, .int .i64 t.want]] w fun e w' => e = .returned (.bool (paB ps zs t n)) ∧ Below w.heap.size w w' := by
  have HI := Lib.hid (boxT_new (a := b) (n := t.inn.length) (ca := cb) (out := t.out) (want := t.want) w)
  have HA := Lib.hid (fun w h1 h2 => hAt_any g a cg ca zs ps n w h1 h2 hz hl hc hn)
  have HP := Lib.hid (fun a' c' w h1 h2 => passes_C a' b c' cb (plyF ps (zs.take n)) t w h1 h2 hil)
  have HX := Lib.hid (show passV (plyF ps (zs.take n)) t = paB ps zs t n from (passV_ok (plyF_vp (hz.take n)) ht).1)
  have HH := Lib.hid hh
  have HL := Lib.hid hp
  have HS := Lib.hid hs
  clear hh hp hs hz ht
  go_enter Tryz.func47, Tryz.ntmps47
  go_upto_region 1 with fail
  refine wp_region_held_drew (S := (fun W2 => BoxT w.heap.size b t.inn.length cb t.out t.want w W2)) (by kernel_rfl) ?_ (fun hHeld => ?_)
  · exact HI.out.drew
  have HBd := Lib.hid HI.out.drew
  clear HI
  generalize World.drew _ = Wd at *
  refine wpAnyH_take (i := 0) (oi := ?oiq1) (v := (.slice g zs.length cg)) ?hiq1 (by kernel_rfl) (by kernel_rfl) (by kernel_rfl) ?hqq1 ?hyq1 hHeld ?restq1
  case hiq1 => exact rfl
  case hqq1 => exact fun _ _ _ h => h
  case hyq1 =>
    refine Or.inl ⟨by rfl, ?_⟩
    intro w hSw
    go_simp
    (try with_reducible rfl)
  try simp only [Act.put, List.getElem_toArray, List.getElem_cons_succ, List.getElem_cons_zero, List.setIfInBounds_toArray, List.set_cons_zero, List.set_cons_succ]
  refine wpAnyH_take (i := 1) (oi := ?oiq2) (v := (.slice a ps.length ca)) ?hiq2 (by kernel_rfl) (by kernel_rfl) (by kernel_rfl) ?hqq2 ?hyq2 hHeld ?restq2
  case hiq2 => exact rfl
  case hqq2 => exact fun _ _ _ h => h
  case hyq2 =>
    refine Or.inl ⟨by rfl, ?_⟩
    intro w hSw
    go_simp
    (try with_reducible rfl)
  try simp only [Act.put, List.getElem_toArray, List.getElem_cons_succ, List.getElem_cons_zero, List.setIfInBounds_toArray, List.set_cons_zero, List.set_cons_succ]
  refine wpAnyH_take (i := 2) (oi := ?oiq3) (v := (.int .i64 n)) ?hiq3 (by kernel_rfl) (by kernel_rfl) (by kernel_rfl) ?hqq3 ?hyq3 hHeld ?restq3
  case hiq3 => exact rfl
  case hqq3 => exact fun _ _ _ h => h
  case hyq3 =>
    refine Or.inl ⟨by rfl, ?_⟩
    intro w hSw
    go_simp
    (try with_reducible rfl)
  try simp only [Act.put, List.getElem_toArray, List.getElem_cons_succ, List.getElem_cons_zero, List.setIfInBounds_toArray, List.set_cons_zero, List.set_cons_succ]
  refine wpAnyH_take (i := 4) (oi := ?oiq4) (v := (.agg #[.slice b t.inn.length cb, .int .i64 t.out, .int .i64 t.want])) ?hiq4 (by kernel_rfl) (by kernel_rfl) (by kernel_rfl) ?hqq4 ?hyq4 hHeld ?restq4
  case hiq4 => exact rfl
  case hqq4 => exact fun _ _ _ h => h
  case hyq4 =>
    refine Or.inl ⟨by rfl, ?_⟩
    intro w hSw
    have m0 := hSw.c0
    have m1 := hSw.c1
    have m2 := hSw.c2
    go_simp
    (try with_reducible rfl)
  try simp only [Act.put, List.getElem_toArray, List.getElem_cons_succ, List.getElem_cons_zero, List.setIfInBounds_toArray, List.set_cons_zero, List.set_cons_succ]
  refine wpAnyH_ready (rs := [3]) (by kernel_rfl) (by simp) ?_
  refine AllReadyH.cons (o := ?or11_3) ?hr11_3 ?kr11_3 AllReadyH.nil
  case hr11_3 => exact rfl
  case kr11_3 =>
    intro Kz hKz
    go_simp
    refine (HA.out _ (HH.out.below HBd.out.below (Nat.le_refl _)) (HL.out.below HBd.out.below (Nat.le_refl _))).mono ?_
    rintro e w3 ⟨a3, c3, rfl, ho, hB⟩
    have H3 := Lib.hid (lines_of_own ho).1
    have HB3 := Lib.hid (HBd.out.low hB)
    clear ho hB
    refine hKz.out _ _ HB3.out (fun hHeld => ?_)
    clear hKz Kz
    try simp only [Act.put, List.getElem_toArray, List.getElem_cons_succ, List.getElem_cons_zero, List.setIfInBounds_toArray, List.set_cons_zero, List.set_cons_succ]
    refine wpAnyH_ready (rs := [5]) (by kernel_rfl) (by simp) ?_
    refine AllReadyH.cons (o := ?or10_5) ?hr10_5 ?kr10_5 AllReadyH.nil
    case hr10_5 => exact rfl
    case kr10_5 =>
      intro Kz hKz
      go_simp
      refine (HP.out a3 c3 _ H3.out (HS.out.below HB3.out.below (Nat.le_refl _))).mono ?_
      rintro e w4 ⟨rfl, hB⟩
      have HB4 := Lib.hid (HB3.out.low hB)
      clear hB
      refine hKz.out _ _ HB4.out (fun hHeld => ?_)
      clear hKz Kz
      try simp only [Act.put, List.getElem_toArray, List.getElem_cons_succ, List.getElem_cons_zero, List.setIfInBounds_toArray, List.set_cons_zero, List.set_cons_succ]
      refine wpAnyH_take (i := 6) (oi := ?oiq5) (v := (.tuple #[.bool (passV (plyF ps (zs.take n)) t), .int .i64 (vpt (plyF ps (zs.take n)) [t])])) ?hiq5 (by kernel_rfl) (by kernel_rfl) (by kernel_rfl) ?hqq5 ?hyq5 hHeld ?restq5
      case hiq5 => exact rfl
      case hqq5 => exact fun _ _ _ h => h
      case hyq5 =>
        refine Or.inl ⟨by rfl, ?_⟩
        intro w hSw
        go_simp
        (try with_reducible rfl)
      try simp only [Act.put, List.getElem_toArray, List.getElem_cons_succ, List.getElem_cons_zero, List.setIfInBounds_toArray, List.set_cons_zero, List.set_cons_succ]
      refine wpAnyH_take (i := 7) (oi := ?oiq6) (v := (.bool (passV (plyF ps (zs.take n)) t))) ?hiq6 (by kernel_rfl) (by kernel_rfl) (by kernel_rfl) ?hqq6 ?hyq6 hHeld ?restq6
      case hiq6 => exact rfl
      case hqq6 => exact fun _ _ _ h => h
      case hyq6 =>
        refine Or.inl ⟨by rfl, ?_⟩
        intro w hSw
        go_simp
        (try with_reducible rfl)
      try simp only [Act.put, List.getElem_toArray, List.getElem_cons_succ, List.getElem_cons_zero, List.setIfInBounds_toArray, List.set_cons_zero, List.set_cons_succ]
      refine wpAnyH_take (i := 8) (oi := ?oiq7) (v := (.int .i64 (vpt (plyF ps (zs.take n)) [t]))) ?hiq7 (by kernel_rfl) (by kernel_rfl) (by kernel_rfl) ?hqq7 ?hyq7 hHeld ?restq7
      case hiq7 => exact rfl
      case hqq7 => exact fun _ _ _ h => h
      case hyq7 =>
        refine Or.inl ⟨by rfl, ?_⟩
        intro w hSw
        go_simp
        (try with_reducible rfl)
      try simp only [Act.put, List.getElem_toArray, List.getElem_cons_succ, List.getElem_cons_zero, List.setIfInBounds_toArray, List.set_cons_zero, List.set_cons_succ]
      refine wpAnyH_take (i := 9) (oi := ?oiq8) (v := (.bool (passV (plyF ps (zs.take n)) t))) ?hiq8 (by kernel_rfl) (by kernel_rfl) (by kernel_rfl) ?hqq8 ?hyq8 hHeld ?restq8
      case hiq8 => exact rfl
      case hqq8 => exact fun _ _ _ h => h
      case hyq8 =>
        refine Or.inl ⟨by rfl, ?_⟩
        intro w hSw
        go_simp
        (try with_reducible rfl)
      try simp only [Act.put, List.getElem_toArray, List.getElem_cons_succ, List.getElem_cons_zero, List.setIfInBounds_toArray, List.set_cons_zero, List.set_cons_succ]
      refine wpAnyH_take (i := 10) (oi := ?oiq9) (v := (.int .i64 (vpt (plyF ps (zs.take n)) [t]))) ?hiq9 (by kernel_rfl) (by kernel_rfl) (by kernel_rfl) ?hqq9 ?hyq9 hHeld ?restq9
      case hiq9 => exact rfl
      case hqq9 => exact fun _ _ _ h => h
      case hyq9 =>
        refine Or.inl ⟨by rfl, ?_⟩
        intro w hSw
        go_simp
        (try with_reducible rfl)
      try simp only [Act.put, List.getElem_toArray, List.getElem_cons_succ, List.getElem_cons_zero, List.setIfInBounds_toArray, List.set_cons_zero, List.set_cons_succ]
      refine wpAnyH_done (by kernel_rfl) ?_ _
      clear hHeld
      (try refine hKb _ _ ?_)
      go_wp2_with fail
      go_ret
      exact ⟨ret_bool HX.out, HB4.out.below⟩

set_option maxRecDepth 100000 in
set_option maxHeartbeats 4000000 in
theorem stGreen_any (a g b : Option Addr) (ca cg cb : Nat) (ps : List L) (h : List (List E)) (t : T) (w : World) (hp : LinesAt w a ps) (hh : RowsEAt w g h) (hs : IntsAt w b t.inn) (hil : t.inn.length ≤ 1000) (hpl : ps.length ≤ 1000) (hhl : h.length ≤ 1000) (hm : ∀ x ∈ h, x.length ≤ 1000) (hcg : h.length ≤ cg) :
    Calls Tryz.prog 21 #[.slice a ps.length ca, .slice g h.length cg, .agg #[.slice b t.inn.length cb, .int .i64 t.out, .int .i64 t.want]] w (GivesIntsE (grR ps h t) (vht ps h [t]) w) := by
  have HI := Lib.hid (boxT_new (a := b) (n := t.inn.length) (ca := cb) (out := t.out) (want := t.want) w)
  have x0 := HI.out.c0
  have x1 := HI.out.c1
  have x2 := HI.out.c2
  have HV := Lib.hid (fun u w h1 h2 h3 => stVts_any a g u ca cg 1 ps h [t] w h1 h2 h3 hpl hhl hm (by simp) (by simpa using hil))
  have HS := Lib.hid (hs.below HI.out.below (Nat.le_refl _))
  have HS0 := Lib.hid hs
  have HH := Lib.hid hh
  have HL := Lib.hid hp
  by_cases hz : vht ps h [t] = 0
  · have hv := (vht_ok hz).1
    have h8 := (vst_ok hv).2.1
    have HP := Lib.hid (fun n hn w h1 h2 h3 => stPas_any g a b cg ca cb h ps n t w h1 h2 h3 hil (okZ_of hv) h8 hcg hn (vht_t hz))
    obtain ⟨N, hN⟩ : ∃ N, N = h.length + 1 := ⟨_, rfl⟩
    have HR := Lib.hid (show grR ps h t = ints ((List.range N).filter (paB ps h t)) by unfold grR; rw [hN]; exact if_pos hz)
    have hmb := mkBools1 h.length N h8 hN
    have HN := Lib.hid hN
    have hN9 : N ≤ 9 := by omega
    rw [HR.out, hz]
    rw [hz] at HV
    clear hz hp hh hm hs HR hv hN
    go_enter Tryz.func21, Tryz.ntmps21
    go_wp2_with fail
    refine (HV.out _ _ ?_ ?_ ?_).mono ?_
    · exact HL.out.below (HI.out.below.alloc HI.out.below.size _) (Nat.le_refl _)
    · exact HH.out.below (HI.out.below.alloc HI.out.below.size _) (Nat.le_refl _)
    · exact tests_one (by simp) HS.out
    rintro e w1 ⟨rfl, hB⟩
    have HI1 := Lib.hid ((HI.out.low ((Below.refl _ _).alloc (Nat.le_refl _) _)).low hB)
    clear hB x0 x1 x2 HI HS
    obtain ⟨M, hM⟩ : ∃ M, M = w1.heap.size := ⟨_, rfl⟩
    have HG0 := Lib.hid (show (w1.alloc (.cells (bv (List.replicate N false)) 4)).heap[M]? = some (.cells (bv (bL (fun i => decide (i < 0) && paB ps h t i) N)) 4 (0, 0)) from by
      have : bL (fun i => decide (i < 0) && paB ps h t i) N = List.replicate N false := by rw [← bL_rep]; exact bL_eq fun x _ => by simp
      rw [this, hM]
      exact heap_new _ _)
    have HI2 := Lib.hid (HI1.out.low ((Below.refl w1.heap.size w1).alloc (Nat.le_refl _) (.cells (bv (List.replicate N false)) 4)))
    have hMw : w.heap.size < M := by rw [hM]; exact hp_lt HI1.out.bl
    go_upto_region 5 with fail
    rw [← hM]
    generalize w1.alloc (.cells (bv (List.replicate N false)) 4) = w2 at *
    clear hmb hM HV HI1
    go_wp2_with fail
    go_loopw [25] (fun s25 wr => ∃ k : Nat, k ≤ N ∧ s25 = .int .i64 k ∧ wr.heap[M]? = some (.cells (bv (bL (fun i => decide (i < k) && paB ps h t i) N)) 4 (0, 0)) ∧ BoxT w.heap.size b t.inn.length cb t.out t.want w wr) (fun s25 _ => N - (intOf s25).toNat)
    case atStart => exact ⟨0, Nat.zero_le _, rfl, HG0.out, HI2.out⟩
    case round =>
      clear HG0 HI2
      obtain ⟨k, hk, rfl, hG, hI⟩ := hrel
      have HG := Lib.hid hG
      have HI := Lib.hid hI
      clear hG hI
      by_cases hlt : k < N
      · have P1 := Lib.hid (HP.out k (by have := HN.out; omega))
        have j0 : (0 : Int) ≤ (k : Int) := by omega
        have j1 : (k : Int) < (N : Int) := by omega
        have x0 := HI.out.c0
        have x1 := HI.out.c1
        have x2 := HI.out.c2
        clear HP
        go_wp2_with fail
        refine (P1.out _ (HH.out.below HI.out.below (Nat.le_refl _)) (HL.out.below HI.out.below (Nat.le_refl _)) (HS0.out.below HI.out.below (Nat.le_refl _))).mono ?_
        rintro e w5 ⟨rfl, hB⟩
        have HG := Lib.hid (hp_below HG.out hB (hp_lt HG.out))
        have HI := Lib.hid (HI.out.low hB)
        clear hB x0 x1 x2
        have b0 := hp_free HG.out k
        have b1 := hp_cell HG.out (bv_get _ k (by rw [bL_len]; exact hlt))
        have HG2 := Lib.hid (show (w5.setCell ⟨M, k, none⟩ (.bool (paB ps h t k))).heap[M]? = some (.cells (bv (bL (fun i => decide (i < k + 1) && paB ps h t i) N)) 4 (0, 0)) from by
          have q := hp_put HG.out k (.bool (paB ps h t k))
          rw [bv_set, bL_put, show bL (fun i => if i = k then paB ps h t k else decide (i < k) && paB ps h t i) N = bL (fun i => decide (i < k + 1) && paB ps h t i) N from bL_eq fun x _ => by
            by_cases hx : x = k
            · subst hx; simp
            · have : decide (x < k + 1) = decide (x < k) := by rw [decide_eq_decide]; omega
              simp [hx, this]] at q
          exact q)
        have HI2 := Lib.hid (show BoxT w.heap.size b t.inn.length cb t.out t.want w (w5.setCell ⟨M, k, none⟩ (.bool (paB ps h t k))) from ⟨hp_set HI.out.bl (by show w.heap.size ≠ M; omega) _, HI.out.below.setCell (p := ⟨M, k, none⟩) (by show w.heap.size ≤ M; omega) _⟩)
        clear HG HI
        go_wp2_with fail
        go_roundw
        case rel => exact ⟨k + 1, by omega, by go_num, HG2.out, HI2.out⟩
        case measure => simp [intOf]; omega
      · obtain rfl : k = N := by omega
        have hMl := hp_lt HG.out
        obtain ⟨bs, hbs⟩ : ∃ bs, bs = bL (fun i => decide (i < k) && paB ps h t i) k := ⟨_, rfl⟩
        have hbl : bs.length = k := by rw [hbs, bL_len]
        have HPL := Lib.hid (show plc bs = ints ((List.range k).filter (paB ps h t)) from plc_ints hbl fun i hi => by rw [hbs, bL_get _ hi]; simp [hi])
        have HGG := Lib.hid (show wr.heap[M]? = some (.cells (bv bs) 4 (0, 0)) from by rw [hbs]; exact HG.out)
        have HQ := Lib.hid (places_any M 0 k bs wr (bools8_at HGG.out) hMl (by have := HN.out; omega))
        rw [HPL.out, hbl] at HQ
        clear hbs hbl HPL HG
        go_wp2_with fail
        refine HQ.out.mono ?_
        rintro e w3 ⟨a3, c3, rfl, ho, hB⟩
        have HO := Lib.hid (own_mono ho HI.out.below.size)
        have HB3 := Lib.hid (HI.out.below.trans (hB.mono HI.out.below.size))
        clear ho hB
        go_wp2_with fail
        go_ret2
        exact ⟨a3, c3, rfl, HO.out, HB3.out⟩
  · have HR := Lib.hid (show grR ps h t = [] by unfold grR; exact if_neg hz)
    have hz1 : (vht ps h [t] != 0) = true := by simpa using hz
    rw [HR.out]
    clear hz hp hh hm hs HR
    generalize vht ps h [t] = c at HV hz1 ⊢
    go_enter Tryz.func21, Tryz.ntmps21
    go_wp2_with fail
    refine (HV.out _ _ ?_ ?_ ?_).mono ?_
    · exact HL.out.below (HI.out.below.alloc HI.out.below.size _) (Nat.le_refl _)
    · exact HH.out.below (HI.out.below.alloc HI.out.below.size _) (Nat.le_refl _)
    · exact tests_one (by simp) HS.out
    rintro e w1 ⟨rfl, hB⟩
    have HB := Lib.hid ((HI.out.low ((Below.refl _ _).alloc (Nat.le_refl _) _)).low hB).below
    clear hB
    go_wp2_with fail
    go_ret2
    exact givesIntsE_nil HB.out

end Go.Proofs.YtikblaebfpdngaaGreat

/- tested, passes, Green of the document (tinkerref07): contracts. -/
set_option linter.unusedVariables false
set_option linter.unusedSimpArgs false
namespace Go.Proofs.YtikblaebfpdngaaGreat
open Go.RowKit Tinker

theorem info_boolG : (Tryz.prog.info? 4).map (fun i => (i.zero, i.size, i.bytes)) = some (some (.bool false), 1, 1) := by kernel_rfl

set_option maxRecDepth 100000 in
set_option maxHeartbeats 1000000 in
theorem rTested7_any (a g u : Option Addr) (ca cg cu : Nat) (ps : List L) (h : List (List E)) (ts : List T) (w : World) (hp : LinesAt w a ps) (hh : RowsEAt w g h) (ht : TestsAt w u ts) (hpl : ps.length ≤ 1000) (hhl : h.length ≤ 1000) (hm : ∀ x ∈ h, x.length ≤ 1000) :
    Calls Tryz.prog 49 #[.slice a ps.length ca, .slice g h.length cg, .slice u ts.length cu] w fun e w' => e = .returned (.int .i64 (vht ps h ts)) ∧ Below w.heap.size w w' := by
  have HV := Lib.hid (rHval_any a g ca cg ps h w hp hh hpl hhl hm)
  have HT := Lib.hid (fun w h => rValidateTests_any u cu ts w h)
  have HU := Lib.hid ht
  by_cases hz : vst ps h = 0
  · have HX := Lib.hid (show vht ps h ts = vts ts by unfold vht fe; exact if_pos hz)
    rw [HX.out]
    rw [hz] at HV
    clear hp hh hm ht hz HX
    generalize vts ts = d at *
    go_enter Tryz.func49, Tryz.ntmps49
    go_wp2_with fail
    refine HV.out.mono ?_
    rintro e w1 ⟨rfl, hB⟩
    have HB := Lib.hid hB
    clear hB
    go_wp2_with fail
    refine (HT.out _ (HU.out.below HB.out (Nat.le_refl _))).mono ?_
    rintro e w2 ⟨rfl, hB⟩
    have HB2 := Lib.hid (HB.out.trans (hB.mono HB.out.size))
    clear hB
    go_wp2_with fail
    go_ret
    exact ⟨rfl, HB2.out⟩
  · have HX := Lib.hid (show vht ps h ts = vst ps h by unfold vht fe; exact if_neg hz)
    have hz1 : (vst ps h != 0) = true := by simpa using hz
    rw [HX.out]
    clear hp hh hm ht hz HX HT
    generalize vst ps h = c at *
    go_enter Tryz.func49, Tryz.ntmps49
    go_wp2_with fail
    refine HV.out.mono ?_
    rintro e w1 ⟨rfl, hB⟩
    have HB := Lib.hid hB
    clear hB
    go_wp2_with fail
    go_ret
    exact ⟨rfl, HB.out⟩

set_option maxRecDepth 100000 in
set_option maxHeartbeats 8000000 in
theorem rPas7_any (a g b : Option Addr) (ca cg cb : Nat) (ps : List L) (h : List (List E)) (t : T) (w : World) (hp : LinesAt w a ps) (hc : a = none → ca = 0) (hh : RowsEAt w g h) (hs : IntsAt w b t.inn) (hv : vst ps h = 0) (ht : isT t = true) :
    Calls Tryz.prog 50 #[.slice a ps.length ca, .slice g h.length cg, .agg #[.slice b t.inn.length cb, .int .i64 t.out, .int .i64 t.want]] w fun e w' => ∃ q c, e = .returned (.slice (some ⟨q, 0, none⟩) (h.length + 1) c) ∧ q < w'.heap.size ∧ (∀ k, k < h.length + 1 → w'.cell? ⟨q, k, none⟩ = some (.bool (paB ps h t k))) ∧ Below w.heap.size w w' := by
  obtain ⟨i0, hi, hz0, hz1, hz2⟩ := info_parts info_boolG
  have h8 := (vst_ok hv).2.1
  have hp8 := (vp_ok (vst_ok hv).1).1
  have HI0 := Lib.hid (boxT_new (a := b) (n := t.inn.length) (ca := cb) (out := t.out) (want := t.want) w)
  have HP := Lib.hid (fun m (hml : m ≤ h.length) v cv w h1 h2 h3 => by
    have h9 := rPlay_any a g v ca cg cv ps h (List.range m) w h1 hc h2 h3 hp8 (by omega) (by rw [List.length_range]; omega) (rok_of hv (fun n hn => by have := List.mem_range.1 hn; omega))
    rw [← plyF_take ps h hml, List.length_range] at h9
    exact h9)
  have HF := Lib.hid (fun (m : Nat) (hml : m ≤ h.length) w => by
    have h9 := rFirst_any m w (by omega)
    unfold GivesInts at h9
    rw [ints_len, List.length_range] at h9
    exact h9)
  have HE := Lib.hid (fun (m : Nat) a' c' w h1 h2 => show Calls Tryz.prog 82 #[.slice a' (plyF ps (h.take m)).length c', .agg #[.slice b t.inn.length cb, .int .i64 t.out, .int .i64 t.want]] w fun e w' => e = .returned (.bool (paB ps h t m)) ∧ Below w.heap.size w w' from rPasses4_any a' b c' cb (plyF ps (h.take m)) t w h1 h2 (plyF_vp ((okZ_of hv).take m)) ht)
  have HH := Lib.hid hh
  have HL := Lib.hid hp
  have HS := Lib.hid hs
  obtain ⟨N, hN⟩ : ∃ N, N = h.length + 1 := ⟨_, rfl⟩
  rw [← hN]
  have HN := Lib.hid hN
  have hN9 : N ≤ 9 := by omega
  clear hh hp hs hv ht hc hN
  go_enter Tryz.func50, Tryz.ntmps50
  go_upto_region 1 with fail
  have HI1 := HI0
  clear HI0
  generalize World.alloc _ _ = w1 at *
  go_wp2_with fail
  go_loopw [7, 8] (fun s7 s8 wr => ∃ k : Nat, k ≤ N ∧ s8 = .int .i64 k ∧ wr.ownsRow w1.heap.size 4 1 s7 k ((bL (paB ps h t) k).map Value.bool) ∧ Below w1.heap.size w1 wr) (fun _ s8 _ => N - (intOf s8).toNat)
  case atStart => exact ⟨0, Nat.zero_le _, rfl, World.ownsRow_nil _ _ _ _, Below.refl _ _⟩
  case round =>
    obtain ⟨k, hk, rfl, hO, hB⟩ := hrel
    obtain ⟨av, cv, rfl⟩ := own_slice hO
    have HO := Lib.hid hO
    have HB := Lib.hid hB
    clear hO hB
    by_cases hlt : k < N
    · have hkl : (k : Int) ≤ (h.length : Int) := by have := HN.out; omega
      have hkl2 : k ≤ h.length := by have := HN.out; omega
      have P1 := Lib.hid (HP.out k (by omega))
      have F1 := Lib.hid (HF.out k (by omega))
      have E1 := Lib.hid (HE.out k)
      generalize plyF ps (h.take k) = q1 at *
      clear HP HF HE
      go_upto_region 5 with fail
      refine wp_region_held_drew (S := (fun W2 => BoxT w.heap.size b t.inn.length cb t.out t.want w W2)) (by kernel_rfl) ?_ (fun hHeld => ?_)
      · exact (HI1.out.low HB.out).drew
      have HI := Lib.hid (HI1.out.low HB.out).drew
      have HBd := Lib.hid HB.out.drew
      have HOd := Lib.hid (show wr.drew.ownsRow w1.heap.size 4 1 (.slice av k cv) k ((bL (paB ps h t) k).map Value.bool) from own_below HO.out (Below.refl wr.heap.size wr).drew (Nat.le_refl _))
      clear HO HB
      generalize World.drew _ = Wd at *
      refine wpAnyH_take (i := 0) (oi := ?oiq1) (v := (.slice av k cv)) ?hiq1 (by kernel_rfl) (by kernel_rfl) (by kernel_rfl) ?hqq1 ?hyq1 hHeld ?restq1
      case hiq1 => exact rfl
      case hqq1 => exact fun _ _ _ h => h
      case hyq1 =>
        refine Or.inl ⟨by rfl, ?_⟩
        intro w hSw
        go_simp
        (try with_reducible rfl)
      try simp only [Act.put, List.getElem_toArray, List.getElem_cons_succ, List.getElem_cons_zero, List.setIfInBounds_toArray, List.set_cons_zero, List.set_cons_succ]
      refine wpAnyH_take (i := 1) (oi := ?oiq2) (v := (.slice a ps.length ca)) ?hiq2 (by kernel_rfl) (by kernel_rfl) (by kernel_rfl) ?hqq2 ?hyq2 hHeld ?restq2
      case hiq2 => exact rfl
      case hqq2 => exact fun _ _ _ h => h
      case hyq2 =>
        refine Or.inl ⟨by rfl, ?_⟩
        intro w hSw
        go_simp
        (try with_reducible rfl)
      try simp only [Act.put, List.getElem_toArray, List.getElem_cons_succ, List.getElem_cons_zero, List.setIfInBounds_toArray, List.set_cons_zero, List.set_cons_succ]
      refine wpAnyH_take (i := 2) (oi := ?oiq3) (v := (.slice g h.length cg)) ?hiq3 (by kernel_rfl) (by kernel_rfl) (by kernel_rfl) ?hqq3 ?hyq3 hHeld ?restq3
      case hiq3 => exact rfl
      case hqq3 => exact fun _ _ _ h => h
      case hyq3 =>
        refine Or.inl ⟨by rfl, ?_⟩
        intro w hSw
        go_simp
        (try with_reducible rfl)
      try simp only [Act.put, List.getElem_toArray, List.getElem_cons_succ, List.getElem_cons_zero, List.setIfInBounds_toArray, List.set_cons_zero, List.set_cons_succ]
      refine wpAnyH_take (i := 3) (oi := ?oiq4) (v := (.int .i64 k)) ?hiq4 (by kernel_rfl) (by kernel_rfl) (by kernel_rfl) ?hqq4 ?hyq4 hHeld ?restq4
      case hiq4 => exact rfl
      case hqq4 => exact fun _ _ _ h => h
      case hyq4 =>
        refine Or.inl ⟨by rfl, ?_⟩
        intro w hSw
        go_simp
        (try with_reducible rfl)
      try simp only [Act.put, List.getElem_toArray, List.getElem_cons_succ, List.getElem_cons_zero, List.setIfInBounds_toArray, List.set_cons_zero, List.set_cons_succ]
      refine wpAnyH_take (i := 6) (oi := ?oiq5) (v := (.agg #[.slice b t.inn.length cb, .int .i64 t.out, .int .i64 t.want])) ?hiq5 (by kernel_rfl) (by kernel_rfl) (by kernel_rfl) ?hqq5 ?hyq5 hHeld ?restq5
      case hiq5 => exact rfl
      case hqq5 => exact fun _ _ _ h => h
      case hyq5 =>
        refine Or.inl ⟨by rfl, ?_⟩
        intro w hSw
        have m0 := hSw.c0
        have m1 := hSw.c1
        have m2 := hSw.c2
        go_simp
        (try with_reducible rfl)
      try simp only [Act.put, List.getElem_toArray, List.getElem_cons_succ, List.getElem_cons_zero, List.setIfInBounds_toArray, List.set_cons_zero, List.set_cons_succ]
      refine wpAnyH_ready (rs := [4]) (by kernel_rfl) (by simp) ?_
      refine AllReadyH.cons (o := ?or11_4) ?hr11_4 ?kr11_4 AllReadyH.nil
      case hr11_4 => exact rfl
      case kr11_4 =>
        intro Kz hKz
        go_simp
        refine (F1.out _).mono ?_
        rintro e w3 ⟨a3, c3, rfl, ho, hB⟩
        have HI3 := Lib.hid (HI.out.low hB)
        have HB3 := Lib.hid (HBd.out.trans (hB.mono HBd.out.size))
        have HO3 := Lib.hid (own_below HOd.out hB (Nat.le_refl _))
        have HV3 := Lib.hid (ints_of_own ho).1
        clear ho
        clear hB
        refine hKz.out _ _ HI3.out (fun hHeld => ?_)
        clear hKz Kz
        try simp only [Act.put, List.getElem_toArray, List.getElem_cons_succ, List.getElem_cons_zero, List.setIfInBounds_toArray, List.set_cons_zero, List.set_cons_succ]
        refine wpAnyH_ready (rs := [5]) (by kernel_rfl) (by simp) ?_
        refine AllReadyH.cons (o := ?or10_5) ?hr10_5 ?kr10_5 AllReadyH.nil
        case hr10_5 => exact rfl
        case kr10_5 =>
          intro Kz hKz
          go_simp
          refine (P1.out _ _ _ (HL.out.below HI3.out.below (Nat.le_refl _)) (HH.out.below HI3.out.below (Nat.le_refl _)) HV3.out).mono ?_
          rintro e w4 ⟨a4, c4, rfl, ho, hB⟩
          have HI4 := Lib.hid (HI3.out.low hB)
          have HB4 := Lib.hid (HB3.out.trans (hB.mono HB3.out.size))
          have HO4 := Lib.hid (own_below HO3.out hB (Nat.le_refl _))
          have HQ4 := Lib.hid (lines_of_own ho).1
          clear ho
          clear hB
          refine hKz.out _ _ HI4.out (fun hHeld => ?_)
          clear hKz Kz
          try simp only [Act.put, List.getElem_toArray, List.getElem_cons_succ, List.getElem_cons_zero, List.setIfInBounds_toArray, List.set_cons_zero, List.set_cons_succ]
          refine wpAnyH_ready (rs := [7]) (by kernel_rfl) (by simp) ?_
          refine AllReadyH.cons (o := ?or9_7) ?hr9_7 ?kr9_7 AllReadyH.nil
          case hr9_7 => exact rfl
          case kr9_7 =>
            intro Kz hKz
            go_simp
            refine (E1.out _ _ _ HQ4.out (HS.out.below HI4.out.below (Nat.le_refl _))).mono ?_
            rintro e w5 ⟨rfl, hB⟩
            have HI5 := Lib.hid (HI4.out.low hB)
            have HB5 := Lib.hid (HB4.out.trans (hB.mono HB4.out.size))
            have HO5 := Lib.hid (own_below HO4.out hB (Nat.le_refl _))
            clear hB
            refine hKz.out _ _ HI5.out (fun hHeld => ?_)
            clear hKz Kz
            try simp only [Act.put, List.getElem_toArray, List.getElem_cons_succ, List.getElem_cons_zero, List.setIfInBounds_toArray, List.set_cons_zero, List.set_cons_succ]
            refine wpAnyH_ready (rs := [8]) (by kernel_rfl) (by simp) ?_
            refine AllReadyH.cons (o := ?or8_8) ?hr8_8 ?kr8_8 AllReadyH.nil
            case hr8_8 => exact rfl
            case kr8_8 =>
              intro Kz hKz
              go_simp
              have HI6 := Lib.hid (HI5.out.low ((Below.refl w5.heap.size w5).alloc (Nat.le_refl _) (.cells #[.bool (paB ps h t k)] 4)))
              refine hKz.out _ _ HI6.out (fun hHeld => ?_)
              clear hKz Kz
              try simp only [Act.put, List.getElem_toArray, List.getElem_cons_succ, List.getElem_cons_zero, List.setIfInBounds_toArray, List.set_cons_zero, List.set_cons_succ]
              refine wpAnyH_ready (rs := [9]) (by kernel_rfl) (by simp) ?_
              refine AllReadyH.cons (o := ?or7_9) ?hr7_9 ?kr7_9 AllReadyH.nil
              case hr7_9 => exact rfl
              case kr7_9 =>
                intro Kz hKz
                rw [if_pos (by rfl)]
                refine wp_append_new (.tmp 15) (.tmp 23) 75 rfl w1.heap.size 4 i0 (.bool false) 1 1 Tryz.underlying75 hi hz0 hz1 hz2 rfl (by decide) (.slice av k cv) k ((bL (paB ps h t) k).map Value.bool) rfl (HO5.out.alloc _) ⟨w5.heap.size, 0, none⟩ 1 1 [.bool (paB ps h t k)] rfl rfl (cell_one_new _ _ _) (by intro u hu; simp at hu; subst hu; rfl) (by simp [maxLen]; omega) (by omega) (by have := HB5.out.size; simp; omega) ?_
                intro v8 w8 hown8 hgrow8 _
                have HB8 := Lib.hid (show Below w1.heap.size w1 w8 from (HB5.out.alloc HB5.out.size _).grown hgrow8 (by have := HB5.out.size; simp; omega) (own_base HO5.out))
                have e : (bL (paB ps h t) k).map Value.bool ++ [.bool (paB ps h t k)] = (bL (paB ps h t) (k + 1)).map Value.bool := by unfold bL; rw [List.range_succ]; simp
                rw [e] at hown8
                have HO8 := Lib.hid hown8
                have HI8 := Lib.hid (HI1.out.low HB8.out)
                clear hown8 hgrow8 e
                refine hKz.out _ _ HI8.out (fun hHeld => ?_)
                clear hKz Kz
                try simp only [Act.put, List.getElem_toArray, List.getElem_cons_succ, List.getElem_cons_zero, List.setIfInBounds_toArray, List.set_cons_zero, List.set_cons_succ]
                refine wpAnyH_take (i := 10) (oi := ?oiq6) (v := v8) ?hiq6 (by kernel_rfl) (by kernel_rfl) (by kernel_rfl) ?hqq6 ?hyq6 hHeld ?restq6
                case hiq6 => exact rfl
                case hqq6 => exact fun _ _ _ h => h
                case hyq6 =>
                  refine Or.inl ⟨by rfl, ?_⟩
                  intro w hSw
                  go_simp
                  (try with_reducible rfl)
                try simp only [Act.put, List.getElem_toArray, List.getElem_cons_succ, List.getElem_cons_zero, List.setIfInBounds_toArray, List.set_cons_zero, List.set_cons_succ]
                refine wpAnyH_done (by kernel_rfl) ?_ _
                clear hHeld
                go_wp2_with fail
                go_roundw
                case rel => exact ⟨k + 1, by omega, by go_num, HO8.out, HB8.out⟩
                case measure => simp [intOf]; omega
    · obtain rfl : k = N := by omega
      have hkl : ¬ (k : Int) ≤ (h.length : Int) := by have := HN.out; omega
      have hkl2 : ¬ k ≤ h.length := by have := HN.out; omega
      obtain ⟨q, rfl⟩ := own_form HO.out (by have := HN.out; omega)
      have HQ := Lib.hid (fun j (hj : j < k) => own_cell HO.out (show ((bL (paB ps h t) k).map Value.bool)[j]? = some (.bool (paB ps h t j)) by unfold bL; simp [hj]))
      have HQL := Lib.hid (own_lt HO.out)
      have HBB := Lib.hid ((HI1.out.low HB.out).below)
      go_wp2_with fail
      go_ret
      exact ⟨q, ⟨cv, rfl⟩, HQL.out, HQ.out, HBB.out⟩

set_option maxRecDepth 100000 in
set_option maxHeartbeats 4000000 in
theorem rGreen_any (a g b : Option Addr) (ca cg cb : Nat) (ps : List L) (h : List (List E)) (t : T) (w : World) (hp : LinesAt w a ps) (hc : a = none → ca = 0) (hh : RowsEAt w g h) (hs : IntsAt w b t.inn) (hpl : ps.length ≤ 1000) (hhl : h.length ≤ 1000) (hm : ∀ x ∈ h, x.length ≤ 1000) :
    Calls Tryz.prog 22 #[.slice a ps.length ca, .slice g h.length cg, .agg #[.slice b t.inn.length cb, .int .i64 t.out, .int .i64 t.want]] w (GivesIntsE (grR ps h t) (vht ps h [t]) w) := by
  have HI := Lib.hid (boxT_new (a := b) (n := t.inn.length) (ca := cb) (out := t.out) (want := t.want) w)
  have x0 := HI.out.c0
  have x1 := HI.out.c1
  have x2 := HI.out.c2
  have HV := Lib.hid (fun u w h1 h2 h3 => rTested7_any a g u ca cg 1 ps h [t] w h1 h2 h3 hpl hhl hm)
  have HS := Lib.hid (hs.below HI.out.below (Nat.le_refl _))
  have HS0 := Lib.hid hs
  have HH := Lib.hid hh
  have HL := Lib.hid hp
  by_cases hz : vht ps h [t] = 0
  · obtain ⟨i0, hi, hz0, hz1, hz2⟩ := info_parts info_int
    have hv := (vht_ok hz).1
    have h8 := (vst_ok hv).2.1
    have HP := Lib.hid (fun w h1 h2 h3 => rPas7_any a g b ca cg cb ps h t w h1 hc h2 h3 hv (vht_t hz))
    obtain ⟨N, hN⟩ : ∃ N, N = h.length + 1 := ⟨_, rfl⟩
    have HR := Lib.hid (show grR ps h t = ints ((List.range N).filter (paB ps h t)) by unfold grR; rw [hN]; exact if_pos hz)
    rw [← hN] at HP
    have hN9 : N ≤ 9 := by omega
    rw [HR.out, hz]
    rw [hz] at HV
    clear hz hp hh hm hs HR hv hc hN
    go_enter Tryz.func22, Tryz.ntmps22
    go_wp2_with fail
    refine (HV.out _ _ ?_ ?_ ?_).mono ?_
    · exact HL.out.below (HI.out.below.alloc HI.out.below.size _) (Nat.le_refl _)
    · exact HH.out.below (HI.out.below.alloc HI.out.below.size _) (Nat.le_refl _)
    · exact tests_one (by simp) HS.out
    rintro e w1 ⟨rfl, hB⟩
    have HI1 := Lib.hid ((HI.out.low ((Below.refl _ _).alloc (Nat.le_refl _) _)).low hB)
    clear hB x0 x1 x2 HI HS
    have x0 := HI1.out.c0
    have x1 := HI1.out.c1
    have x2 := HI1.out.c2
    go_wp2_with fail
    refine (HP.out _ (HL.out.below HI1.out.below (Nat.le_refl _)) (HH.out.below HI1.out.below (Nat.le_refl _)) (HS0.out.below HI1.out.below (Nat.le_refl _))).mono ?_
    rintro e w2 ⟨q, c, rfl, hq, hc, hB⟩
    have HC := Lib.hid hc
    have HB2 := Lib.hid (HI1.out.below.trans (hB.mono HI1.out.below.size))
    clear hc hB x0 x1 x2
    go_wp2_with fail
    go_loopw [10, 11] (fun s10 s11 wr => ∃ k : Nat, k ≤ N ∧ s11 = .int .i64 k ∧ wr.ownsRow w2.heap.size 3 1 s10 (ints ((List.range k).filter (paB ps h t))).length ((ints ((List.range k).filter (paB ps h t))).map (Value.int .i64)) ∧ Below w2.heap.size w2 wr) (fun _ s11 _ => N - (intOf s11).toNat)
    case atStart => exact ⟨0, Nat.zero_le _, rfl, World.ownsRow_nil _ _ _ _, Below.refl _ _⟩
    case round =>
      obtain ⟨k, hk, rfl, hown, hB⟩ := hrel
      have HO := Lib.hid hown
      have HB := Lib.hid hB
      clear hown hB
      by_cases hlt : k < N
      · have q0 := (HB.out.cell (p := ⟨q, k, none⟩) hq).trans (HC.out k hlt)
        have j0 : (0 : Int) ≤ (k : Int) := by omega
        have j1 : (k : Int) < (N : Int) := by omega
        have hlen := flt_len (paB ps h t) k
        cases hI : paB ps h t k
        · rw [hI] at q0
          have HN := Lib.hid (flt_no hI)
          clear hI
          go_wp2_with fail
          go_roundw
          case rel => exact ⟨k + 1, by omega, by go_num, by rw [HN.out]; exact HO.out, HB.out⟩
          case measure => simp [intOf]; omega
        · rw [hI] at q0
          have HN := Lib.hid (flt_yes hI)
          clear hI
          go_wp2_with (at_builtin; refine wpList_append_own _ rfl (.tmp 34) (.tmp 36) 24 rfl w2.heap.size 3 i0 (.int .i64 0) 1 8 Tryz.underlying24 hi hz0 hz1 hz2 rfl (by decide) _ _ _ rfl (HO.out.alloc _) ⟨wr.heap.size, 0, none⟩ 1 1 [.int .i64 k] rfl rfl ?c1 ?c2 ?c3 ?c4 ?c5 ?_)
          case c1 => exact cell_one_new _ _ _
          case c2 => simp [Value.oneCell']
          case c3 => unfold maxLen; omega
          case c4 => omega
          case c5 => have := HB.out.size; simp; omega
          intro v' w3 hown' hgrow _
          have hB1 : Below w2.heap.size w2 w3 := (HB.out.alloc HB.out.size _).grown hgrow (by have := HB.out.size; simp; omega) (own_base HO.out)
          have e : (ints ((List.range k).filter (paB ps h t))).map (Value.int .i64) ++ [.int .i64 k] = (ints ((List.range (k + 1)).filter (paB ps h t))).map (Value.int .i64) := by rw [HN.out]; simp
          have e2 : (ints ((List.range k).filter (paB ps h t))).length + 1 = (ints ((List.range (k + 1)).filter (paB ps h t))).length := by rw [HN.out]; simp
          rw [e, e2] at hown'
          have HO3 := Lib.hid hown'
          have HB3 := Lib.hid hB1
          clear hown' hgrow e e2 hB1 HO HB
          go_wp2_with fail
          go_roundw
          case rel => exact ⟨k + 1, by omega, by go_num, HO3.out, HB3.out⟩
          case measure => simp [intOf]; omega
      · obtain rfl : k = N := by omega
        have hO9 := HO.out
        obtain ⟨av, cv, rfl⟩ := own_slice hO9
        clear hO9
        go_wp2_with fail
        go_ret2
        exact ⟨av, cv, rfl, own_mono HO.out HB2.out.size, HB2.out.trans (HB.out.mono HB2.out.size)⟩
  · have HR := Lib.hid (show grR ps h t = [] by unfold grR; exact if_neg hz)
    have hz1 : (vht ps h [t] != 0) = true := by simpa using hz
    rw [HR.out]
    clear hz hp hh hm hs HR
    generalize vht ps h [t] = c at HV hz1 ⊢
    go_enter Tryz.func22, Tryz.ntmps22
    go_wp2_with fail
    refine (HV.out _ _ ?_ ?_ ?_).mono ?_
    · exact HL.out.below (HI.out.below.alloc HI.out.below.size _) (Nat.le_refl _)
    · exact HH.out.below (HI.out.below.alloc HI.out.below.size _) (Nat.le_refl _)
    · exact tests_one (by simp) HS.out
    rintro e w1 ⟨rfl, hB⟩
    have HB := Lib.hid ((HI.out.low ((Below.refl _ _).alloc (Nat.le_refl _) _)).low hB).below
    clear hB
    go_wp2_with fail
    go_ret2
    exact givesIntsE_nil HB.out

end Go.Proofs.YtikblaebfpdngaaGreat

/- Losses of story: contract. -/
set_option linter.unusedVariables false
set_option linter.unusedSimpArgs false
namespace Go.Proofs.YtikblaebfpdngaaGreat
open Go.RowKit Tinker

/-- The repair n loses the test k; all that it loses; all pairs of the first n repairs. -/
def lsB (ps : List L) (h : List (List E)) (ts : List T) (n k : Nat) : Bool := (ts.map fun t => paB ps h t n && !paB ps h t (n + 1)).getD k false
def lsR (ps : List L) (h : List (List E)) (ts : List T) (n : Nat) : List Nat := (List.range ts.length).filter (lsB ps h ts n)
def lsTo (ps : List L) (h : List (List E)) (ts : List T) (n : Nat) : List (Nat × Nat) := (List.range n).flatMap fun i => (lsR ps h ts i).map fun k => (i, k)
def lsL (ps : List L) (h : List (List E)) (ts : List T) : List (Nat × Nat) := if vht ps h ts = 0 then lsTo ps h ts h.length else []
/-- The cells of pairs. -/
def pc (ls : List (Nat × Nat)) : List Value := ls.flatMap fun x => [Value.int .i64 (x.1 : Int), Value.int .i64 (x.2 : Int)]
theorem pc_app (a b : List (Nat × Nat)) : pc (a ++ b) = pc a ++ pc b := by unfold pc; rw [List.flatMap_append]
theorem pc_len : ∀ ls : List (Nat × Nat), (pc ls).length = ls.length * 2
  | [] => rfl
  | x :: r => by
    have e : pc (x :: r) = [Value.int .i64 (x.1 : Int), Value.int .i64 (x.2 : Int)] ++ pc r := rfl
    rw [e, List.length_append, pc_len r]
    simp
    omega
theorem pc_one (a b : Nat) : pc [(a, b)] = [Value.int .i64 (a : Int), Value.int .i64 (b : Int)] := rfl
theorem lsTo_succ (ps : List L) (h : List (List E)) (ts : List T) (n : Nat) : lsTo ps h ts (n + 1) = lsTo ps h ts n ++ (lsR ps h ts n).map fun k => (n, k) := by
  unfold lsTo
  rw [List.range_succ, List.flatMap_append]
  simp
theorem lsR_len (ps : List L) (h : List (List E)) (ts : List T) (n : Nat) : (lsR ps h ts n).length ≤ ts.length := by
  unfold lsR
  have := List.length_filter_le (lsB ps h ts n) (List.range ts.length)
  rwa [List.length_range] at this
theorem lsTo_len (ps : List L) (h : List (List E)) (ts : List T) (h8 : ts.length ≤ 8) : ∀ n, (lsTo ps h ts n).length ≤ n * 8
  | 0 => by simp [lsTo]
  | n + 1 => by
    rw [lsTo_succ, List.length_append, List.length_map]
    have := lsTo_len ps h ts h8 n
    have := lsR_len ps h ts n
    omega
theorem info_two : (Tryz.prog.info? 85).map (fun i => (i.zero, i.size, i.bytes)) = some (some (.agg #[.int .i64 0, .int .i64 0]), 2, 16) := by kernel_rfl
def GivesTwosE (ls : List (Nat × Nat)) (c : Int) (w : World) (e : Ending) (w' : World) : Prop :=
  ∃ a cap, e = .returned (.tuple #[.slice a ls.length cap, .int .i64 c]) ∧ w'.ownsRow w.heap.size 85 2 (.slice a ls.length cap) ls.length (pc ls) ∧ Below w.heap.size w w'
theorem givesTwosE_nil {c : Int} {w w' : World} (hB : Below w.heap.size w w') : GivesTwosE [] c w (.returned (.tuple #[.slice none 0 0, .int .i64 c])) w' := ⟨none, 0, rfl, World.ownsRow_nil _ _ _ _, hB⟩
theorem plyF_next (ps : List L) {h : List (List E)} {k : Nat} {x : List E} (hx : h[k]? = some x) : plyF ps (h.take (k + 1)) = doL (plyF ps (h.take k)) x := by
  unfold plyF
  rw [List.take_add_one, hx, List.foldl_append]
  rfl
theorem ls_tr {ps : List L} {h : List (List E)} {ts : List T} {k : Nat} {x : List E} (hz : OkZ ps h) (ht : vts ts = 0) (hx : h[k]? = some x) : trR true (plyF ps (h.take k)) x ts = ints (lsR ps h ts k) := by
  unfold trR
  rw [ht, if_pos (hz.step hx).1, ← plyF_next ps hx]
  unfold trL lsR
  refine plc_ints (by rw [List.length_map]) fun i hi => ?_
  unfold lsB
  refine congrArg (fun l : List Bool => l.getD i false) (List.map_congr_left fun t _ => ?_)
  show (pas (plyF ps (h.take k)) t == true && pas (plyF ps (h.take (k + 1))) t != true) = (pas (plyF ps (h.take k)) t && !pas (plyF ps (h.take (k + 1))) t)
  cases pas (plyF ps (h.take k)) t <;> cases pas (plyF ps (h.take (k + 1))) t <;> rfl
theorem wpList_append_fresh {w : World} {ops : Array Oper} {rest : List Oper} {o : Oper} {a : Act} {Q : Exit → Act → World → Prop} (hgd : o.guard = none) (s x : Operand) (t : TypeId)
    (ho : o.op = .call { callee := .builtin .append, args := #[s, x], argTypes := #[t, t] })
    (base : Nat) (e : TypeId) (i : TypeInfo) (z : Value) (size bytes : Nat) (ht : Tryz.prog.underlying t = some (.slice e)) (hi : Tryz.prog.info? e = some i) (hz : i.zero = some z)
    (hsize : i.size = size) (hby : i.bytes = bytes) (hzs : z.cells.size = size) (hsz : 0 < size)
    (v : Value) (n : Nat) (xs : List Value) (hs : a.eval s = v) (hown : w.ownsRow base e size v n xs)
    (ad : Addr) (m c : Nat) (news : List Value) (hx : a.eval x = .slice (some ad) m c) (hl : news.length = m * size) (hnews : ∀ j u, news[j]? = some u → w.cell? (ad.add j) = some u) (h1 : ∀ u ∈ news, u.oneCell' = true)
    (h63 : n + m ≤ maxLen) (hbytes : (n + m) * bytes ≤ 140737488355328) (hbase : base ≤ w.heap.size)
    (h : ∀ v' w', w'.ownsRow base e size v' (n + m) (xs ++ news) → w.grownBy w' v.ownBlock → (v'.ownBlock = v.ownBlock ∨ v'.ownBlock = some w.heap.size) → wpList Tryz.prog ops Q rest (a.put o.dst v') w') : wpList Tryz.prog ops Q (o :: rest) a w :=
  wpList_plain hgd fun _ hK => wp_append_new s x t ho base e i z size bytes ht hi hz hsize hby hzs hsz v n xs hs hown ad m c news hx hl hnews h1 h63 hbytes hbase fun v' w' h2 h3 h4 => hK _ _ (h v' w' h2 h3 (h4.imp id And.left))
/-- With the first j of those that the repair k loses; with those of the first m tests. -/
def lsIn (ps : List L) (h : List (List E)) (ts : List T) (k j : Nat) : List (Nat × Nat) := lsTo ps h ts k ++ ((lsR ps h ts k).take j).map fun i => (k, i)
def lsIx (ps : List L) (h : List (List E)) (ts : List T) (k m : Nat) : List (Nat × Nat) := lsTo ps h ts k ++ ((List.range m).filter (lsB ps h ts k)).map fun i => (k, i)
theorem lsIn_0 (ps : List L) (h : List (List E)) (ts : List T) (k : Nat) : lsIn ps h ts k 0 = lsTo ps h ts k := by simp [lsIn]
theorem lsIx_0 (ps : List L) (h : List (List E)) (ts : List T) (k : Nat) : lsIx ps h ts k 0 = lsTo ps h ts k := by simp [lsIx]
theorem lsIn_all (ps : List L) (h : List (List E)) (ts : List T) (k : Nat) : lsIn ps h ts k (lsR ps h ts k).length = lsTo ps h ts (k + 1) := by unfold lsIn; rw [List.take_length, lsTo_succ]
theorem lsIx_all (ps : List L) (h : List (List E)) (ts : List T) (k : Nat) : lsIx ps h ts k ts.length = lsTo ps h ts (k + 1) := by unfold lsIx; rw [lsTo_succ]; rfl
theorem lsIn_next {ps : List L} {h : List (List E)} {ts : List T} {k j m : Nat} (hm : (lsR ps h ts k)[j]? = some m) : lsIn ps h ts k (j + 1) = lsIn ps h ts k j ++ [(k, m)] := by
  unfold lsIn
  rw [List.take_add_one, hm, List.append_assoc, List.map_append]
  rfl
theorem lsIx_yes {ps : List L} {h : List (List E)} {ts : List T} {k m : Nat} (hm : lsB ps h ts k m = true) : lsIx ps h ts k (m + 1) = lsIx ps h ts k m ++ [(k, m)] := by
  unfold lsIx
  rw [List.range_succ, List.filter_append, List.filter_cons_of_pos hm, List.map_append, List.append_assoc]
  rfl
theorem lsIx_no {ps : List L} {h : List (List E)} {ts : List T} {k m : Nat} (hm : lsB ps h ts k m = false) : lsIx ps h ts k (m + 1) = lsIx ps h ts k m := by
  unfold lsIx
  rw [List.range_succ, List.filter_append, List.filter_cons_of_neg (by rw [hm]; decide), List.filter_nil, List.append_nil]
theorem lsIn_len {ps : List L} {h : List (List E)} {ts : List T} (h8 : ts.length ≤ 8) (k j : Nat) : (lsIn ps h ts k j).length ≤ k * 8 + 8 := by
  unfold lsIn
  rw [List.length_append, List.length_map, List.length_take]
  have := lsTo_len ps h ts h8 k
  have := lsR_len ps h ts k
  omega
theorem lsIx_len {ps : List L} {h : List (List E)} {ts : List T} (h8 : ts.length ≤ 8) (k : Nat) {m : Nat} (hm : m ≤ ts.length) : (lsIx ps h ts k m).length ≤ k * 8 + 8 := by
  unfold lsIx
  rw [List.length_append, List.length_map]
  have := lsTo_len ps h ts h8 k
  have := List.length_filter_le (lsB ps h ts k) (List.range m)
  rw [List.length_range] at this
  omega

set_option maxRecDepth 100000 in
set_option maxHeartbeats 4000000 in
theorem stLosses_any (a g u : Option Addr) (ca cg cu : Nat) (ps : List L) (h : List (List E)) (ts : List T) (w : World) (hp : LinesAt w a ps) (hh : RowsEAt w g h) (hts : TestsAt w u ts) (hpl : ps.length ≤ 1000) (hhl : h.length ≤ 1000) (hm : ∀ x ∈ h, x.length ≤ 1000) (htl : ts.length ≤ 1000) (hml : ∀ t ∈ ts, t.inn.length ≤ 1000) (hcg : h.length ≤ cg) :
    Calls Tryz.prog 28 #[.slice a ps.length ca, .slice g h.length cg, .slice u ts.length cu] w (GivesTwosE (lsL ps h ts) (vht ps h ts) w) := by
  have HV := Lib.hid (stVts_any a g u ca cg cu ps h ts w hp hh hts hpl hhl hm htl hml)
  by_cases hz : vht ps h ts = 0
  · obtain ⟨i0, hi, hz0, hz1, hz2⟩ := info_parts info_two
    have hv := (vht_ok hz).1
    have ht := (vht_ok hz).2
    have h8 := (vst_ok hv).2.1
    have t8 := (vts_ok ht).1
    have HR := Lib.hid (show lsL ps h ts = lsTo ps h ts h.length by unfold lsL; exact if_pos hz)
    have HA := Lib.hid (fun n hn w h1 h2 => hAt_any g a cg ca h ps n w h1 h2 (okZ_of hv) h8 hcg hn)
    have HK := Lib.hid (fun k x (hx : h[k]? = some x) a' c' b' d' w h1 h2 h3 => by
      have h9 := pBreaks_any a' b' u c' d' cu (plyF ps (h.take k)) x ts w h1 h2 h3 (hm x (mem_of_get hx)) htl hml (by rw [plyF_len]; exact hpl)
      rw [ls_tr (okZ_of hv) ht hx, ht, ((okZ_of hv).step hx).1] at h9
      exact h9)
    have HLL := Lib.hid (fun k => lsTo_len ps h ts t8 k)
    have HLR := Lib.hid (fun k => lsR_len ps h ts k)
    have HT := Lib.hid hts
    have HH := Lib.hid hh
    have HL := Lib.hid hp
    rw [HR.out, hz]
    rw [hz] at HV
    clear hz hp hh hm hts hv ht hml htl HR
    go_enter Tryz.func28, Tryz.ntmps28
    go_wp2_with fail
    refine HV.out.mono ?_
    rintro e w1 ⟨rfl, hB⟩
    have HB := Lib.hid hB
    clear hB
    go_wp2_with fail
    go_loopw [9, 25] (fun s9 s25 wr => ∃ k : Nat, k ≤ h.length ∧ s25 = .int .i64 k ∧ wr.ownsRow w1.heap.size 85 2 s9 (lsTo ps h ts k).length (pc (lsTo ps h ts k)) ∧ Below w1.heap.size w1 wr) (fun _ s25 _ => h.length - (intOf s25).toNat)
    case atStart => exact ⟨0, Nat.zero_le _, rfl, World.ownsRow_nil _ _ _ _, Below.refl _ _⟩
    case round =>
      obtain ⟨k, hk, rfl, hO, hBi⟩ := hrel
      have HO := Lib.hid hO
      have HBi := Lib.hid hBi
      clear hO hBi
      by_cases hlt : k < h.length
      · have HBw := Lib.hid (HB.out.trans (HBi.out.mono HB.out.size))
        obtain ⟨b9, off, x, ax, cx, rfl, hlb, hx, c0, hxe⟩ := (HH.out.below HBw.out (Nat.le_refl _)).at_ hlt
        have A1 := Lib.hid (HA.out k (by omega))
        have K1 := Lib.hid (HK.out k x hx)
        have HXE := Lib.hid hxe
        have j0 : (0 : Int) ≤ (k : Int) := by omega
        have j1 : (k : Int) < (h.length : Int) := by omega
        clear hx hxe HA HK
        have l1 := HLL.out k
        have l2 := HLR.out k
        go_wp2_with fail
        refine (A1.out _ (HH.out.below HBw.out (Nat.le_refl _)) (HL.out.below HBw.out (Nat.le_refl _))).mono ?_
        rintro e w3 ⟨a3, c3, rfl, ho, hB⟩
        have H3 := Lib.hid (lines_of_own ho).1
        have HXE := Lib.hid (HXE.out.below hB (Nat.le_refl _))
        have HBi := Lib.hid (HBi.out.trans (hB.mono HBi.out.size))
        have HO := Lib.hid (own_below HO.out hB (Nat.le_refl _))
        have HBw := Lib.hid (HBw.out.trans (hB.mono HBw.out.size))
        clear ho hB c0
        go_wp2_with fail
        refine (K1.out _ _ _ _ _ H3.out HXE.out (HT.out.below HBw.out (Nat.le_refl _))).mono ?_
        rintro e w4 ⟨a4, c4, rfl, ho, hB⟩
        have H4 := Lib.hid (ints_of_own ho).1
        have HBi := Lib.hid (HBi.out.trans (hB.mono HBi.out.size))
        have HQ0 := Lib.hid (show ∀ q o p, a4 = some ⟨q, o, p⟩ → (∀ y, Value.ownBlock u9 = some y → y ≠ q) ∧ q < w4.heap.size from fun q o p e => by
          subst e
          have h1 := (ho.lt q rfl)
          exact ⟨fun y hy => by have := (HO.out.lt y hy).2; omega, h1.2⟩)
        have HO := Lib.hid (own_below HO.out hB (Nat.le_refl _))
        clear ho hB H3 HXE HBw
        have hll := ints_len (lsR ps h ts k)
        rw [hll]
        clear hll
        have HB4 := HBi
        go_wp2_with fail
        go_loopw [9, 42] (fun s9 s42 wr => ∃ j : Nat, j ≤ (lsR ps h ts k).length ∧ s42 = .int .i64 j ∧ wr.ownsRow w1.heap.size 85 2 s9 (lsIn ps h ts k j).length (pc (lsIn ps h ts k j)) ∧ Below w1.heap.size w1 wr ∧ w4.heap.size ≤ wr.heap.size ∧ ∀ q o p, a4 = some ⟨q, o, p⟩ → (∀ y, Value.ownBlock s9 = some y → y ≠ q) ∧ wr.heap[q]? = w4.heap[q]?) (fun _ s42 _ => (lsR ps h ts k).length - (intOf s42).toNat)
        case atStart => exact ⟨0, Nat.zero_le _, rfl, by rw [lsIn_0]; exact HO.out, HBi.out, Nat.le_refl _, fun q o p e => ⟨(HQ0.out q o p e).1, rfl⟩⟩
        case round =>
          clear HO HBi
          obtain ⟨j, hj, rfl, hO, hBi, hs4, hq4⟩ := hrel
          have HQ4 := Lib.hid hq4
          clear hq4
          have HO := Lib.hid hO
          have HBi := Lib.hid hBi
          clear hO hBi
          by_cases hjl : j < (lsR ps h ts k).length
          · obtain ⟨b2, off2, z, rfl, hlb2, hzk, z1⟩ := H4.out.at_ (k := j) (by rw [ints_len]; exact hjl)
            have z0 := (World.cell?_of_block (w := w4) (w' := wr) (a := ⟨b2, off2 + j, none⟩) (HQ4.out b2 off2 none rfl).2).trans z1
            clear z1
            obtain ⟨m, hmk, rfl⟩ := ints_get hzk
            have HN := Lib.hid (lsIn_next hmk)
            have l3 := lsIn_len (ps := ps) (h := h) (ts := ts) t8 k j
            have i0' : (0 : Int) ≤ (j : Int) := by omega
            clear hzk hmk
            go_wp2_with (at_builtin; refine wpList_append_fresh rfl (.tmp 46) (.tmp 50) 49 rfl w1.heap.size 85 i0 (.agg #[.int .i64 0, .int .i64 0]) 2 16 Tryz.underlying49 hi hz0 hz1 hz2 rfl (by decide) _ _ _ rfl (HO.out.alloc _) ⟨wr.heap.size, 0, none⟩ 1 1 [.int .i64 (k : Int), .int .i64 (m : Int)] rfl rfl ?c1 ?c2 ?c3 ?c4 ?c5 ?_)
            case c1 => exact cell_two_new _ _ _ _
            case c2 => simp [Value.oneCell']
            case c3 => unfold maxLen; omega
            case c4 => omega
            case c5 => have := HBi.out.size; simp; omega
            intro v' wn hown' hgrow hnew'
            have hB1 : Below w1.heap.size w1 wn := (HBi.out.alloc HBi.out.size _).grown hgrow (by have := HBi.out.size; simp; omega) (own_base HO.out)
            have e : pc (lsIn ps h ts k j) ++ [.int .i64 (k : Int), .int .i64 (m : Int)] = pc (lsIn ps h ts k (j + 1)) := by rw [HN.out, pc_app _ [(k, m)], pc_one]
            have e2 : (lsIn ps h ts k j).length + 1 = (lsIn ps h ts k (j + 1)).length := by rw [HN.out]; simp
            rw [e, e2] at hown'
            have HO3 := Lib.hid hown'
            have HB3 := Lib.hid hB1
            have HQ5 := Lib.hid (show w4.heap.size ≤ wn.heap.size ∧ ∀ q o p, some (⟨b2, off2, none⟩ : Addr) = some ⟨q, o, p⟩ → (∀ y, v'.ownBlock = some y → y ≠ q) ∧ wn.heap[q]? = w4.heap[q]? from by
              have g1 := hgrow.size
              simp at g1
              refine ⟨by omega, fun q o p e9 => ?_⟩
              obtain ⟨n1, n2⟩ := HQ4.out q o p e9
              have hq : q = b2 := by injection e9 with e9; injection e9 with e9; exact e9.symm
              have hql : q < wr.heap.size := by omega
              refine ⟨fun y hy => ?_, ?_⟩
              · rcases hnew' with hn | hn
                · exact n1 y (hn.symm.trans hy)
                · rw [hn] at hy
                  simp at hy
                  omega
              · rw [hgrow.block q (by simp; omega) (fun e8 => n1 q e8.symm rfl), Below.heap_alloc _ _ _ hql]
                exact n2)
            clear hown' hgrow hnew' e e2 hB1 HO HBi
            go_wp2_with fail
            go_roundw
            case rel => exact ⟨j + 1, by omega, by go_num, HO3.out, HB3.out, HQ5.out⟩
            case measure => simp [intOf]; omega
          · obtain rfl : j = (lsR ps h ts k).length := by omega
            have HEQ := Lib.hid (lsIn_all ps h ts k)
            go_wp2_with fail
            go_roundw
            case rel => exact ⟨k + 1, by omega, by go_num, by rw [← HEQ.out]; exact HO.out, HBi.out⟩
            case measure => simp [intOf]; omega
      · obtain rfl : k = h.length := by omega
        have hO9 := HO.out
        obtain ⟨av, cv, rfl⟩ := own_slice hO9
        clear hO9
        go_wp2_with fail
        go_ret2
        exact ⟨av, cv, rfl, own_mono HO.out HB.out.size, HB.out.trans (HBi.out.mono HB.out.size)⟩
  · have HR := Lib.hid (show lsL ps h ts = [] by unfold lsL; exact if_neg hz)
    have hz1 : (vht ps h ts != 0) = true := by simpa using hz
    rw [HR.out]
    clear hz hp hh hm hts HR
    generalize vht ps h ts = c at HV hz1 ⊢
    go_enter Tryz.func28, Tryz.ntmps28
    go_wp2_with fail
    refine HV.out.mono ?_
    rintro e w1 ⟨rfl, hB⟩
    have HB := Lib.hid hB
    clear hB
    go_wp2_with fail
    go_ret2
    exact givesTwosE_nil HB.out

end Go.Proofs.YtikblaebfpdngaaGreat

/- Losses of the document (tinkerref07), SamePairs: contracts. -/
set_option linter.unusedVariables false
set_option linter.unusedSimpArgs false
namespace Go.Proofs.YtikblaebfpdngaaGreat
open Go.RowKit Tinker

theorem cells2 : Tryz.prog.cellsOf 85 = 2 := by kernel_rfl
theorem cells1 : Tryz.prog.cellsOf 3 = 1 := by kernel_rfl
theorem lit1 (d : Nat) (p : Int) (hp : (Lit.int .i64 p).wf = true) : Tryz.prog.keyLits (d + 1) 3 [.int .i64 p] = some [.int .i64 p] := by
  unfold Program.keyLits
  rw [Tryz.underlying3]
  simp only [hp, and_self, if_true]
theorem lit2 (p q : Int) (hp : (Lit.int .i64 p).wf = true) (hq : (Lit.int .i64 q).wf = true) : Tryz.prog.keyLits 10 85 [.int .i64 p, .int .i64 q] = some [.int .i64 p, .int .i64 q] := by
  have h1 := lit1 8 p hp
  have h2 := lit1 8 q hq
  unfold Program.keyLits
  rw [Tryz.underlying85]
  simp only [cells1, cells2, List.length_cons, List.length_nil, if_true]
  rw [show List.range 2 = [0, 1] from rfl]
  simp [h1, h2]
set_option maxRecDepth 100000 in
theorem run_ne2 (p q : Int) (hp : (Lit.int .i64 p).wf = true) (hq : (Lit.int .i64 q).wf = true) (w : World) : Sem.run Tryz.prog (binOp .neq 85 (.agg #[.int .i64 p, .int .i64 q]) (.agg #[.int .i64 p, .int .i64 q])) w = .ok (.bool false) w := by
  rw [run_neq_struct]
  obtain ⟨r, h1, h2⟩ := run_equalIn_deep (P := Tryz.prog) 9990 10 85 (by kernel_rfl) w 10 10 (.agg #[.int .i64 p, .int .i64 q]) (.agg #[.int .i64 p, .int .i64 q]) [.int .i64 p, .int .i64 q] [.int .i64 p, .int .i64 q] (by kernel_rfl) (by kernel_rfl) (lit2 p q hp hq) (lit2 p q hp hq)
  have h3 : r = true := h2.2 rfl
  rw [show (10000 : Nat) = 9990 + 10 from rfl, h1, h3]
  rfl
theorem pc_get : ∀ {ls : List (Nat × Nat)} {j : Nat} {x : Nat × Nat}, ls[j]? = some x → (pc ls)[j * 2]? = some (.int .i64 (x.1 : Int)) ∧ (pc ls)[j * 2 + 1]? = some (.int .i64 (x.2 : Int))
  | [], j, x, h => by simp at h
  | y :: r, 0, x, h => by
    simp at h
    subst h
    exact ⟨rfl, rfl⟩
  | y :: r, j + 1, x, h => by
    have := pc_get (ls := r) (j := j) (x := x) (by simpa using h)
    have e : pc (y :: r) = Value.int .i64 (y.1 : Int) :: Value.int .i64 (y.2 : Int) :: pc r := rfl
    rw [e, show (j + 1) * 2 = j * 2 + 1 + 1 by omega]
    exact ⟨by simpa using this.1, by simpa using this.2⟩
/-- Pairs in memory. -/
def TwosAt (W : World) (a : Option Addr) (ls : List (Nat × Nat)) : Prop := ls = [] ∨ ∃ b, a = some ⟨b, 0, none⟩ ∧ b < W.heap.size ∧ ∀ j x, ls[j]? = some x → W.cell? ⟨b, j * 2, none⟩ = some (.int .i64 (x.1 : Int)) ∧ W.cell? ⟨b, j * 2 + 1, none⟩ = some (.int .i64 (x.2 : Int))
theorem TwosAt.below {W W' : World} {B : Nat} {a : Option Addr} {ls : List (Nat × Nat)} (h : TwosAt W a ls) (hb : Below B W W') (hB : W.heap.size ≤ B) : TwosAt W' a ls := by
  rcases h with h | ⟨b, e, hl, hc⟩
  · exact .inl h
  · refine .inr ⟨b, e, Nat.lt_of_lt_of_le hl hb.size, fun j x hx => ?_⟩
    obtain ⟨h1, h2⟩ := hc j x hx
    exact ⟨(hb.cell (p := ⟨b, _, none⟩) (by show b < B; omega)).trans h1, (hb.cell (p := ⟨b, _, none⟩) (by show b < B; omega)).trans h2⟩
theorem twos_of_own {W : World} {base n c : Nat} {e : TypeId} {a : Option Addr} {ls : List (Nat × Nat)} (h : W.ownsRow base e 2 (.slice a n c) n (pc ls)) : TwosAt W a ls := by
  have hn := h.1
  rw [pc_len] at hn
  rcases Nat.eq_zero_or_pos ls.length with h0 | h0
  · exact .inl (List.length_eq_zero_iff.1 h0)
  · obtain ⟨g, rfl⟩ := own_form h (by omega)
    exact .inr ⟨g, rfl, own_lt h, fun j x hx => ⟨own_cell h (pc_get hx).1, own_cell h (pc_get hx).2⟩⟩

set_option maxRecDepth 100000 in
set_option maxHeartbeats 1000000 in
theorem sameP_self (n : Nat) (a b : Option Addr) (ca cb : Nat) (ls : List (Nat × Nat)) (w : World) (hn : ls.length = n) (ha : TwosAt w a ls) (hb : TwosAt w b ls) (hm : n ≤ 1000) (hsm : ∀ x ∈ ls, x.1 ≤ 1000 ∧ x.2 ≤ 1000) :
    Calls Tryz.prog 30 #[.slice a n ca, .slice b n cb] w fun e w' => e = .returned (.bool true) ∧ Below w.heap.size w w' := by
  have HN := Lib.hid hn
  have hnn : ((n : Int) != (n : Int)) = false := by simp
  have HA := Lib.hid ha
  have HB := Lib.hid hb
  have HSM := Lib.hid hsm
  clear hn ha hb hsm
  go_enter Tryz.func30, Tryz.ntmps30
  go_wp2_with fail
  go_loopw [5] (fun s5 wr => ∃ k : Nat, k ≤ n ∧ s5 = .int .i64 k ∧ Below w.heap.size w wr) (fun s5 _ => n - (intOf s5).toNat)
  case atStart => exact ⟨0, Nat.zero_le _, rfl, Below.refl _ _⟩
  case round =>
    obtain ⟨k, hk, rfl, hBi⟩ := hrel
    have HBi := Lib.hid hBi
    clear hBi
    by_cases hlt : k < n
    · have hkl : k < ls.length := by rw [HN.out]; exact hlt
      obtain ⟨x, hx⟩ := get_of_lt hkl
      obtain ⟨b1, rfl, hl1, hc1⟩ := HA.out.resolve_left (by rintro rfl; simp at hkl)
      obtain ⟨b2, rfl, hl2, hc2⟩ := HB.out.resolve_left (by rintro rfl; simp at hkl)
      obtain ⟨c0, c1⟩ := hc1 k x hx
      obtain ⟨d0, d1⟩ := hc2 k x hx
      have x0 := (HBi.out.cell (p := ⟨b1, k * 2, none⟩) hl1).trans c0
      have x1 := (HBi.out.cell (p := ⟨b1, k * 2 + 1, none⟩) hl1).trans c1
      have y0 := (HBi.out.cell (p := ⟨b2, k * 2, none⟩) hl2).trans d0
      have y1 := (HBi.out.cell (p := ⟨b2, k * 2 + 1, none⟩) hl2).trans d1
      have j0 : (0 : Int) ≤ (k : Int) := by omega
      have j1 : (k : Int) < (n : Int) := by omega
      obtain ⟨p, q⟩ := x
      obtain ⟨hp1, hq1⟩ := HSM.out _ (mem_of_get hx)
      simp only at hp1 hq1
      simp only at x0 x1 y0 y1
      clear hx c0 c1 d0 d1 hc1 hc2 hkl
      have hne := run_ne2 p q (by simp [Lit.wf, show IntKind.i64.min = -9223372036854775808 from rfl, show IntKind.i64.max = 9223372036854775807 from rfl]; omega) (by simp [Lit.wf, show IntKind.i64.min = -9223372036854775808 from rfl, show IntKind.i64.max = 9223372036854775807 from rfl]; omega)
      go_wp2_with fail
      go_quiet (fail)
      go_wp2_with fail
      go_roundw
      case rel => exact ⟨k + 1, by omega, by go_num, HBi.out.trans (Below.mono ⟨rfl, rfl, rfl, Nat.le_refl _, fun _ _ => rfl⟩ HBi.out.size)⟩
      case measure => simp [intOf]; omega
    · go_wp2_with fail
      go_ret
      exact ⟨rfl, HBi.out⟩
theorem lsB_at {ps : List L} {h : List (List E)} {ts : List T} {n k : Nat} {t : T} (ht : ts[k]? = some t) : lsB ps h ts n k = (paB ps h t n && !paB ps h t (n + 1)) := by
  unfold lsB
  rw [List.getD_eq_getElem?_getD, List.getElem?_map, ht]
  rfl

set_option maxRecDepth 100000 in
set_option maxHeartbeats 4000000 in
theorem rLosses_any (a g u : Option Addr) (ca cg cu : Nat) (ps : List L) (h : List (List E)) (ts : List T) (w : World) (hp : LinesAt w a ps) (hc : a = none → ca = 0) (hh : RowsEAt w g h) (hts : TestsAt w u ts) (hpl : ps.length ≤ 1000) (hhl : h.length ≤ 1000) (hm : ∀ x ∈ h, x.length ≤ 1000) :
    Calls Tryz.prog 29 #[.slice a ps.length ca, .slice g h.length cg, .slice u ts.length cu] w (GivesTwosE (lsL ps h ts) (vht ps h ts) w) := by
  have HV := Lib.hid (rTested7_any a g u ca cg cu ps h ts w hp hh hts hpl hhl hm)
  by_cases hz : vht ps h ts = 0
  · obtain ⟨i0, hi, hz0, hz1, hz2⟩ := info_parts info_two
    have hv := (vht_ok hz).1
    have ht := (vht_ok hz).2
    have h8 := (vst_ok hv).2.1
    have t8 := (vts_ok ht).1
    have HR := Lib.hid (show lsL ps h ts = lsTo ps h ts h.length by unfold lsL; exact if_pos hz)
    have HP := Lib.hid (fun (t : T) (hm9 : t ∈ ts) b cb w h1 h2 h3 => rPas7_any a g b ca cg cb ps h t w h1 hc h2 h3 hv ((vts_ok ht).2 t hm9))
    have HT := Lib.hid hts
    have HH := Lib.hid hh
    have HL := Lib.hid hp
    rw [HR.out, hz]
    rw [hz] at HV
    clear hz hp hh hm hts hv ht HR hc
    go_enter Tryz.func29, Tryz.ntmps29
    go_wp2_with fail
    refine HV.out.mono ?_
    rintro e w1 ⟨rfl, hB⟩
    have HB := Lib.hid hB
    clear hB HV
    go_wp2_with fail
    go_loopw [9, 10] (fun s9 s10 wr => ∃ k : Nat, k ≤ h.length ∧ s10 = .int .i64 k ∧ wr.ownsRow w1.heap.size 85 2 s9 (lsTo ps h ts k).length (pc (lsTo ps h ts k)) ∧ Below w1.heap.size w1 wr) (fun _ s10 _ => h.length - (intOf s10).toNat)
    case atStart => exact ⟨0, Nat.zero_le _, rfl, World.ownsRow_nil _ _ _ _, Below.refl _ _⟩
    case round =>
      obtain ⟨k, hk, rfl, hO, hBi⟩ := hrel
      have HO := Lib.hid hO
      have HBi := Lib.hid hBi
      clear hO hBi
      by_cases hlt : k < h.length
      · have k1 : (k : Int) < (h.length : Int) + 1 := by omega
        have k2 : (k : Int) + 1 < (h.length : Int) + 1 := by omega
        have k3 : (0 : Int) ≤ (k : Int) := by omega
        have k4 : (0 : Int) ≤ (k : Int) + 1 := by omega
        go_wp2_with fail
        go_loopw [9, 11] (fun s9 s11 wr => ∃ m : Nat, m ≤ ts.length ∧ s11 = .int .i64 m ∧ wr.ownsRow w1.heap.size 85 2 s9 (lsIx ps h ts k m).length (pc (lsIx ps h ts k m)) ∧ Below w1.heap.size w1 wr) (fun _ s11 _ => ts.length - (intOf s11).toNat)
        case atStart => exact ⟨0, Nat.zero_le _, rfl, by rw [lsIx_0]; exact HO.out, HBi.out⟩
        case round =>
          clear HO HBi
          obtain ⟨m, hm9, rfl, hO, hBi⟩ := hrel
          have HO := Lib.hid hO
          have HBi := Lib.hid hBi
          clear hO hBi
          by_cases hml : m < ts.length
          · have HBw := Lib.hid (HB.out.trans (HBi.out.mono HB.out.size))
            obtain ⟨b2, off2, t, ai, ci, rfl, hlb2, htm, x0, x1, x2, hin⟩ := (HT.out.below HBw.out (Nat.le_refl _)).at_ hml
            have P1 := Lib.hid (HP.out t (mem_of_get htm) ai ci _ (HL.out.below HBw.out (Nat.le_refl _)) (HH.out.below HBw.out (Nat.le_refl _)) hin)
            have HLB := Lib.hid (lsB_at (ps := ps) (h := h) (n := k) htm)
            have l3 := lsIx_len (ps := ps) (h := h) (ts := ts) t8 k hm9
            have j0 : (0 : Int) ≤ (m : Int) := by omega
            have j1 : (m : Int) < (ts.length : Int) := by omega
            clear htm hin
            go_wp2_with fail
            refine P1.out.mono ?_
            rintro e w3 ⟨q, c, rfl, hq, hcq, hB⟩
            have q0 := hcq k (by omega)
            have q1 := hcq (k + 1) (by omega)
            have HO := Lib.hid (own_below HO.out hB (Nat.le_refl _))
            have HBi := Lib.hid (HBi.out.trans (hB.mono HBi.out.size))
            clear hcq hB P1 HBw x0 x1 x2
            generalize paB ps h t k = A1 at *
            generalize paB ps h t (k + 1) = A2 at *
            cases A1
            · have HN := Lib.hid (lsIx_no (ps := ps) (h := h) (ts := ts) (k := k) (m := m) HLB.out)
              go_wp2_with fail
              go_roundw
              case rel => exact ⟨m + 1, by omega, by go_num, by rw [HN.out]; exact HO.out, HBi.out⟩
              case measure => simp [intOf]; omega
            · cases A2
              · have HN := Lib.hid (lsIx_yes (ps := ps) (h := h) (ts := ts) (k := k) (m := m) HLB.out)
                go_wp2_with (at_builtin; refine wpList_append_fresh rfl (.tmp 51) (.tmp 55) 49 rfl w1.heap.size 85 i0 (.agg #[.int .i64 0, .int .i64 0]) 2 16 Tryz.underlying49 hi hz0 hz1 hz2 rfl (by decide) _ _ _ rfl (HO.out.alloc _) ⟨w3.heap.size, 0, none⟩ 1 1 [.int .i64 (k : Int), .int .i64 (m : Int)] rfl rfl ?c1 ?c2 ?c3 ?c4 ?c5 ?_)
                case c1 => exact cell_two_new _ _ _ _
                case c2 => simp [Value.oneCell']
                case c3 => unfold maxLen; omega
                case c4 => omega
                case c5 => have := HBi.out.size; simp; omega
                intro v' wn hown' hgrow hnew'
                have hB1 : Below w1.heap.size w1 wn := (HBi.out.alloc HBi.out.size _).grown hgrow (by have := HBi.out.size; simp; omega) (own_base HO.out)
                have e : pc (lsIx ps h ts k m) ++ [.int .i64 (k : Int), .int .i64 (m : Int)] = pc (lsIx ps h ts k (m + 1)) := by rw [HN.out, pc_app _ [(k, m)], pc_one]
                have e2 : (lsIx ps h ts k m).length + 1 = (lsIx ps h ts k (m + 1)).length := by rw [HN.out]; simp
                rw [e, e2] at hown'
                have HO3 := Lib.hid hown'
                have HB3 := Lib.hid hB1
                clear hown' hgrow hnew' e e2 hB1 HO HBi
                go_wp2_with fail
                go_roundw
                case rel => exact ⟨m + 1, by omega, by go_num, HO3.out, HB3.out⟩
                case measure => simp [intOf]; omega
              · have HN := Lib.hid (lsIx_no (ps := ps) (h := h) (ts := ts) (k := k) (m := m) HLB.out)
                go_wp2_with fail
                go_roundw
                case rel => exact ⟨m + 1, by omega, by go_num, by rw [HN.out]; exact HO.out, HBi.out⟩
                case measure => simp [intOf]; omega
          · obtain rfl : m = ts.length := by omega
            have HEQ := Lib.hid (lsIx_all ps h ts k)
            go_wp2_with fail
            go_roundw
            case rel => exact ⟨k + 1, by omega, by go_num, by rw [← HEQ.out]; exact HO.out, HBi.out⟩
            case measure => simp [intOf]; omega
      · obtain rfl : k = h.length := by omega
        have hO9 := HO.out
        obtain ⟨av, cv, rfl⟩ := own_slice hO9
        clear hO9
        go_wp2_with fail
        go_ret2
        exact ⟨av, cv, rfl, own_mono HO.out HB.out.size, HB.out.trans (HBi.out.mono HB.out.size)⟩
  · have HR := Lib.hid (show lsL ps h ts = [] by unfold lsL; exact if_neg hz)
    have hz1 : (vht ps h ts != 0) = true := by simpa using hz
    rw [HR.out]
    clear hz hp hh hm hts HR
    generalize vht ps h ts = c at HV hz1 ⊢
    go_enter Tryz.func29, Tryz.ntmps29
    go_wp2_with fail
    refine HV.out.mono ?_
    rintro e w1 ⟨rfl, hB⟩
    have HB := Lib.hid hB
    clear hB
    go_wp2_with fail
    go_ret2
    exact givesTwosE_nil HB.out

end Go.Proofs.YtikblaebfpdngaaGreat

/- StoryLosses: the walk. -/
set_option linter.unusedVariables false
set_option linter.unusedSimpArgs false
namespace Go.Proofs.YtikblaebfpdngaaGreat
open Go.RowKit Tinker

theorem ls_small {ps : List L} {h : List (List E)} {ts : List T} : (lsL ps h ts).length ≤ 1000 ∧ ∀ x ∈ lsL ps h ts, x.1 ≤ 1000 ∧ x.2 ≤ 1000 := by
  unfold lsL
  split
  · rename_i hz
    have h8 := (vst_ok (vht_ok hz).1).2.1
    have t8 := (vts_ok (vht_ok hz).2).1
    refine ⟨by have := lsTo_len ps h ts t8 h.length; omega, fun x hx => ?_⟩
    unfold lsTo at hx
    obtain ⟨i, hi, hx⟩ := List.mem_flatMap.1 hx
    obtain ⟨k, hk, rfl⟩ := List.mem_map.1 hx
    have h1 := List.mem_range.1 hi
    have h2 := List.mem_range.1 (List.mem_filter.1 hk).1
    exact ⟨by show i ≤ 1000; omega, by show k ≤ 1000; omega⟩
  · exact ⟨by simp, fun x hx => by simp at hx⟩

set_option maxRecDepth 100000 in
set_option maxHeartbeats 8000000 in
theorem storyLosses_walk (a : Option Addr) (ca : Nat) (ps : List L) (g : Option Addr) (cg : Nat) (h : List (List E)) (u : Option Addr) (cu : Nat) (ts : List T) (w : World) (hp : LinesAt w a ps) (hc : a = none → ca = 0) (hh : RowsEAt w g h) (hc1 : g = none → cg = 0) (hcg : h.length ≤ cg) (hml : h.length ≤ maxLen) (hts : TestsAt w u ts) (hc2 : u = none → cu = 0) (htm : ts.length ≤ maxLen) :
    Calls Tryz.prog 7 #[.slice a ps.length ca, .slice g h.length cg, .slice u ts.length cu] w fun e w' => e = .returned (.bool true) ∧ Below w.heap.size w w' := by
  have HK := Lib.hid (fun w => sane7_true w)
  have HL := Lib.hid (fun w hh => long7_any a g ps.length ca cg h w hh hml)
  have HP := Lib.hid hp
  have HH := Lib.hid hh
  cases hl : lng7 ps.length h
  · obtain ⟨hpl0, hhl0, hm0⟩ := lng7_no hl
    have hpl : ps.length ≤ 1000 := by omega
    have hhl : h.length ≤ 1000 := by omega
    have hm : ∀ x ∈ h, x.length ≤ 1000 := fun x hx => by have := hm0 x hx; omega
    rw [hl] at HL
    have HM := Lib.hid (fun w h => many4_any u cu ts w h htm)
    have HT := Lib.hid hts
    have C1 := Lib.hid (fun (h1 : ts.length ≤ 1000) (h2 : ∀ t ∈ ts, t.inn.length ≤ 1000) w h3 h4 h5 => stLosses_any a g u ca cg cu ps h ts w h3 h4 h5 hpl hhl hm h1 h2 hcg)
    have C2 := Lib.hid (fun w h1 h2 h3 => rLosses_any a g u ca cg cu ps h ts w h1 hc h2 h3 hpl hhl hm)
    obtain ⟨hq, hqs⟩ := ls_small (ps := ps) (h := h) (ts := ts)
    generalize lsL ps h ts = q at *
    generalize vht ps h ts = c at *
    have e1 : (c == c) = true := by simp
    have S1 := Lib.hid (fun a' b' c' d' w h1 h2 => sameP_self q.length a' b' c' d' q w rfl h1 h2 hq hqs)
    clear hc hts htm hqs
    clear hp hh hc1 hml hl hm0
    cases hmn : manyC ts
    · obtain ⟨ht1, ht2⟩ := manyC_no hmn
      have C1 := Lib.hid (C1.out (by omega) (fun t ht => by have := ht2 t ht; omega))
      rw [hmn] at HM
      clear hm hcg hmn ht2
      go_enter Tryz.func7, Tryz.ntmps7
      go_wp2_with fail
      refine (HL.out _ HH.out).mono ?_
      rintro e w0 ⟨rfl, rfl⟩
      go_wp2_with fail
      refine (HM.out _ HT.out).mono ?_
      rintro e w1 ⟨rfl, hB⟩
      have HB := Lib.hid hB
      clear hB
      go_wp2_with fail
      refine (C1.out _ (HP.out.below HB.out (Nat.le_refl _)) (HH.out.below HB.out (Nat.le_refl _)) (HT.out.below HB.out (Nat.le_refl _))).mono ?_
      rintro e w2 ⟨a1, c1, rfl, ho, hB⟩
      have HB := Lib.hid (HB.out.trans (hB.mono HB.out.size))
      have H1 := Lib.hid (twos_of_own ho)
      clear hB ho
      go_wp2_with fail
      refine (C2.out _ (HP.out.below HB.out (Nat.le_refl _)) (HH.out.below HB.out (Nat.le_refl _)) (HT.out.below HB.out (Nat.le_refl _))).mono ?_
      rintro e w3 ⟨a2, c2, rfl, ho, hB⟩
      have H1 := Lib.hid (H1.out.below hB (Nat.le_refl _))
      have HB := Lib.hid (HB.out.trans (hB.mono HB.out.size))
      have H2 := Lib.hid (twos_of_own ho)
      clear hB ho
      go_wp2_with fail
      refine (S1.out _ _ _ _ _  H1.out H2.out).mono ?_
      rintro e w4 ⟨rfl, hB⟩
      have H1 := Lib.hid (H1.out.below hB (Nat.le_refl _))
      have H2 := Lib.hid (H2.out.below hB (Nat.le_refl _))
      have HB := Lib.hid (HB.out.trans (hB.mono HB.out.size))
      clear hB
      go_wp2_with fail
      refine (HK.out _ ).mono ?_
      rintro e w5 ⟨rfl, hB⟩
      have H1 := Lib.hid (H1.out.below hB (Nat.le_refl _))
      have H2 := Lib.hid (H2.out.below hB (Nat.le_refl _))
      have HB := Lib.hid (HB.out.trans (hB.mono HB.out.size))
      clear hB
      go_wp2_with fail
      go_ret
      exact ⟨rfl, HB.out⟩
    · rw [hmn] at HM
      clear hm hcg hmn
      go_enter Tryz.func7, Tryz.ntmps7
      go_wp2_with fail
      refine (HL.out _ HH.out).mono ?_
      rintro e w0 ⟨rfl, rfl⟩
      go_wp2_with fail
      refine (HM.out _ HT.out).mono ?_
      rintro e w1 ⟨rfl, hB⟩
      have HB := Lib.hid hB
      clear hB
      go_wp2_with fail
      refine (HK.out _ ).mono ?_
      rintro e w2 ⟨rfl, hB⟩
      have HB := Lib.hid (HB.out.trans (hB.mono HB.out.size))
      clear hB
      go_wp2_with fail
      go_ret
      exact ⟨rfl, HB.out⟩
  · rw [hl] at HL
    clear hp hh hc hc1 hcg hml hl hts hc2 htm
    go_enter Tryz.func7, Tryz.ntmps7
    go_wp2_with fail
    refine (HL.out _ HH.out).mono ?_
    rintro e w0 ⟨rfl, rfl⟩
    go_wp2_with fail
    refine (HK.out _ ).mono ?_
    rintro e w1 ⟨rfl, hB⟩
    have HB := Lib.hid hB
    clear hB
    go_wp2_with fail
    go_ret
    exact ⟨rfl, HB.out⟩

end Go.Proofs.YtikblaebfpdngaaGreat
