/- Several texts in one. -/
import Derived.Test.YtikblaebfpdngaaGreatHtL
import Derived.Test.YtikblaebfpdngaaGreatHdE
import Derived.Test.YtikblaebfpdngaaGreatGd4
import Derived.Test.YtikblaebfpdngaaGreatChkP
import Derived.BigQuiet
import Derived.Test.YtikblaebfpdngaaGreatLng7
/- validateTests, passes, Green of story: contracts. -/
set_option linter.unusedVariables false
set_option linter.unusedSimpArgs false
namespace Go.Proofs.YtikblaebfpdngaaGreat
open Go.RowKit Go.Shelf Tinker
attribute [local go_sem] Oper.semAt_some

/-- The errors of a history and tests. -/
def vht (ps : List L) (h : List (List E)) (ts : List T) : Int := fe (vst ps h) (vts ts)
/-- The test passes behind the first n repairs. -/
def paB (ps : List L) (h : List (List E)) (t : T) (n : Nat) : Bool := pas (plyF ps (h.take n)) t
def grR (ps : List L) (h : List (List E)) (t : T) : List Int := if vht ps h [t] = 0 then ints ((List.range (h.length + 1)).filter (paB ps h t)) else []
theorem vht_ok {ps : List L} {h : List (List E)} {ts : List T} (e : vht ps h ts = 0) : vst ps h = 0 ∧ vts ts = 0 := by
  unfold vht fe at e
  split at e
  · exact ⟨by assumption, e⟩
  · exact absurd e (by assumption)
theorem vht_t {ps : List L} {h : List (List E)} {t : T} (e : vht ps h [t] = 0) : isT t = true := (vts_ok (vht_ok e).2).2 t (by simp)
theorem mkP1 (w : World) : (Instr.makeSlice 75 (.int .i64 1) (.int .i64 1)).run Tryz.prog w = .ok (.slice (some ⟨w.heap.size, 0, none⟩) 1 1) (w.alloc (.cells (bv (List.replicate 1 false)) 4)) := by kernel_rfl
theorem mkP2 (w : World) : (Instr.makeSlice 75 (.int .i64 2) (.int .i64 2)).run Tryz.prog w = .ok (.slice (some ⟨w.heap.size, 0, none⟩) 2 2) (w.alloc (.cells (bv (List.replicate 2 false)) 4)) := by kernel_rfl
theorem mkP3 (w : World) : (Instr.makeSlice 75 (.int .i64 3) (.int .i64 3)).run Tryz.prog w = .ok (.slice (some ⟨w.heap.size, 0, none⟩) 3 3) (w.alloc (.cells (bv (List.replicate 3 false)) 4)) := by kernel_rfl
theorem mkP4 (w : World) : (Instr.makeSlice 75 (.int .i64 4) (.int .i64 4)).run Tryz.prog w = .ok (.slice (some ⟨w.heap.size, 0, none⟩) 4 4) (w.alloc (.cells (bv (List.replicate 4 false)) 4)) := by kernel_rfl
theorem mkP5 (w : World) : (Instr.makeSlice 75 (.int .i64 5) (.int .i64 5)).run Tryz.prog w = .ok (.slice (some ⟨w.heap.size, 0, none⟩) 5 5) (w.alloc (.cells (bv (List.replicate 5 false)) 4)) := by kernel_rfl
theorem mkP6 (w : World) : (Instr.makeSlice 75 (.int .i64 6) (.int .i64 6)).run Tryz.prog w = .ok (.slice (some ⟨w.heap.size, 0, none⟩) 6 6) (w.alloc (.cells (bv (List.replicate 6 false)) 4)) := by kernel_rfl
theorem mkP7 (w : World) : (Instr.makeSlice 75 (.int .i64 7) (.int .i64 7)).run Tryz.prog w = .ok (.slice (some ⟨w.heap.size, 0, none⟩) 7 7) (w.alloc (.cells (bv (List.replicate 7 false)) 4)) := by kernel_rfl
theorem mkP8 (w : World) : (Instr.makeSlice 75 (.int .i64 8) (.int .i64 8)).run Tryz.prog w = .ok (.slice (some ⟨w.heap.size, 0, none⟩) 8 8) (w.alloc (.cells (bv (List.replicate 8 false)) 4)) := by kernel_rfl
theorem mkP9 (w : World) : (Instr.makeSlice 75 (.int .i64 9) (.int .i64 9)).run Tryz.prog w = .ok (.slice (some ⟨w.heap.size, 0, none⟩) 9 9) (w.alloc (.cells (bv (List.replicate 9 false)) 4)) := by kernel_rfl
theorem mkBools1 (n N : Nat) (hn : n ≤ 8) (hN : N = n + 1) (w : World) : (Instr.makeSlice 75 (.int .i64 ((n : Int) + 1)) (.int .i64 ((n : Int) + 1))).run Tryz.prog w = .ok (.slice (some ⟨w.heap.size, 0, none⟩) N N) (w.alloc (.cells (bv (List.replicate N false)) 4)) := by
  subst hN
  have c : n = 0 ∨ n = 1 ∨ n = 2 ∨ n = 3 ∨ n = 4 ∨ n = 5 ∨ n = 6 ∨ n = 7 ∨ n = 8 := by omega
  rcases c with rfl | rfl | rfl | rfl | rfl | rfl | rfl | rfl | rfl
  · exact mkP1 w
  · exact mkP2 w
  · exact mkP3 w
  · exact mkP4 w
  · exact mkP5 w
  · exact mkP6 w
  · exact mkP7 w
  · exact mkP8 w
  · exact mkP9 w

set_option maxRecDepth 100000 in
set_option maxHeartbeats 1000000 in
theorem stVts_any (a g u : Option Addr) (ca cg cu : Nat) (ps : List L) (h : List (List E)) (ts : List T) (w : World) (hp : LinesAt w a ps) (hh : RowsEAt w g h) (ht : TestsAt w u ts) (hpl : ps.length ≤ 1000) (hhl : h.length ≤ 1000) (hm : ∀ x ∈ h, x.length ≤ 1000) (htl : ts.length ≤ 1000) (hml : ∀ t ∈ ts, t.inn.length ≤ 1000) :
    Calls Tryz.prog 46 #[.slice a ps.length ca, .slice g h.length cg, .slice u ts.length cu] w fun e w' => e = .returned (.int .i64 (vht ps h ts)) ∧ Below w.heap.size w w' := by
  have HV := Lib.hid (stVal_any a g ca cg ps h w hp hh hpl hhl hm)
  have HT := Lib.hid (fun w h => validateTests_C u cu ts w h htl hml)
  have HU := Lib.hid ht
  have HX := Lib.hid (show vht ps h ts = fe (vst ps h) (vts ts) from rfl)
  rw [HX.out]
  clear hp hh hm ht hml HX
  generalize vst ps h = c at *
  generalize vts ts = d at *
  go_enter Tryz.func46, Tryz.ntmps46
  go_wp2_with fail
  refine HV.out.mono ?_
  rintro e w1 ⟨rfl, hB⟩
  have HB := Lib.hid hB
  clear hB
  go_wp2_with fail
  refine (HT.out _ (HU.out.below HB.out (Nat.le_refl _))).mono ?_
  rintro e w2 ⟨rfl, hB⟩
  have HB2 := Lib.hid (HB.out.trans (hB.mono HB.out.size))
  clear hB
  go_wp2_with fail
  refine (firstError_two _ _ _ _).mono ?_
  rintro e w3 ⟨rfl, rfl⟩
  go_wp2_with fail
  go_ret
  exact ⟨rfl, HB2.out.alloc HB2.out.size _⟩

set_option maxRecDepth 100000 in
set_option maxHeartbeats 2000000 in
theorem stPas_any (g a b : Option Addr) (cg ca cb : Nat) (zs : List (List E)) (ps : List L) (n : Nat) (t : T) (w : World) (hh : RowsEAt w g zs) (hp : LinesAt w a ps) (hs : IntsAt w b t.inn) (hil : t.inn.length ≤ 1000) (hz : OkZ ps zs) (hl : zs.length ≤ 8) (hc : zs.length ≤ cg) (hn : n ≤ zs.length) (ht : isT t = true) :
    Calls Tryz.prog 47 #[.slice g zs.length cg, .slice a ps.length ca, .int .i64 n, .agg #[.slice b t.inn.length cb, .int .i64 t.out, .int .i64 t.want]] w fun e w' => e = .returned (.bool (paB ps zs t n)) ∧ Below w.heap.size w w' := by
  have HI := Lib.hid (boxT_new (a := b) (n := t.inn.length) (ca := cb) (out := t.out) (want := t.want) w)
  have HA := Lib.hid (fun w h1 h2 => hAt_any g a cg ca zs ps n w h1 h2 hz hl hc hn)
  have HP := Lib.hid (fun a' c' w h1 h2 => passes_C a' b c' cb (plyF ps (zs.take n)) t w h1 h2 hil)
  have HX := Lib.hid (show passV (plyF ps (zs.take n)) t = paB ps zs t n from (passV_ok (plyF_vp (hz.take n)) ht).1)
  have HH := Lib.hid hh
  have HL := Lib.hid hp
  have HS := Lib.hid hs
  clear hh hp hs hz ht
  go_enter Tryz.func47, Tryz.ntmps47
  go_upto_region 1 with fail
  refine wp_region_held_drew (S := (fun W2 => BoxT w.heap.size b t.inn.length cb t.out t.want w W2)) (by kernel_rfl) ?_ (fun hHeld => ?_)
  · exact HI.out.drew
  have HBd := Lib.hid HI.out.drew
  clear HI
  generalize World.drew _ = Wd at *
  refine wpAnyH_take (i := 0) (oi := ?oiq1) (v := (.slice g zs.length cg)) ?hiq1 (by kernel_rfl) (by kernel_rfl) (by kernel_rfl) ?hqq1 ?hyq1 hHeld ?restq1
  case hiq1 => exact rfl
  case hqq1 => exact fun _ _ _ h => h
  case hyq1 =>
    refine Or.inl ⟨by rfl, ?_⟩
    intro w hSw
    go_simp
    (try with_reducible rfl)
  try simp only [Act.put, List.getElem_toArray, List.getElem_cons_succ, List.getElem_cons_zero, List.setIfInBounds_toArray, List.set_cons_zero, List.set_cons_succ]
  refine wpAnyH_take (i := 1) (oi := ?oiq2) (v := (.slice a ps.length ca)) ?hiq2 (by kernel_rfl) (by kernel_rfl) (by kernel_rfl) ?hqq2 ?hyq2 hHeld ?restq2
  case hiq2 => exact rfl
  case hqq2 => exact fun _ _ _ h => h
  case hyq2 =>
    refine Or.inl ⟨by rfl, ?_⟩
    intro w hSw
    go_simp
    (try with_reducible rfl)
  try simp only [Act.put, List.getElem_toArray, List.getElem_cons_succ, List.getElem_cons_zero, List.setIfInBounds_toArray, List.set_cons_zero, List.set_cons_succ]
  refine wpAnyH_take (i := 2) (oi := ?oiq3) (v := (.int .i64 n)) ?hiq3 (by kernel_rfl) (by kernel_rfl) (by kernel_rfl) ?hqq3 ?hyq3 hHeld ?restq3
  case hiq3 => exact rfl
  case hqq3 => exact fun _ _ _ h => h
  case hyq3 =>
    refine Or.inl ⟨by rfl, ?_⟩
    intro w hSw
    go_simp
    (try with_reducible rfl)
  try simp only [Act.put, List.getElem_toArray, List.getElem_cons_succ, List.getElem_cons_zero, List.setIfInBounds_toArray, List.set_cons_zero, List.set_cons_succ]
  refine wpAnyH_take (i := 4) (oi := ?oiq4) (v := (.agg #[.slice b t.inn.length cb, .int .i64 t.out, .int .i64 t.want])) ?hiq4 (by kernel_rfl) (by kernel_rfl) (by kernel_rfl) ?hqq4 ?hyq4 hHeld ?restq4
  case hiq4 => exact rfl
  case hqq4 => exact fun _ _ _ h => h
  case hyq4 =>
    refine Or.inl ⟨by rfl, ?_⟩
    intro w hSw
    have m0 := hSw.c0
    have m1 := hSw.c1
    have m2 := hSw.c2
    go_simp
    (try with_reducible rfl)
  try simp only [Act.put, List.getElem_toArray, List.getElem_cons_succ, List.getElem_cons_zero, List.setIfInBounds_toArray, List.set_cons_zero, List.set_cons_succ]
  refine wpAnyH_ready (rs := [3]) (by kernel_rfl) (by simp) ?_
  refine AllReadyH.cons (o := ?or11_3) ?hr11_3 ?kr11_3 AllReadyH.nil
  case hr11_3 => exact rfl
  case kr11_3 =>
    intro Kz hKz
    go_simp
    refine (HA.out _ (HH.out.below HBd.out.below (Nat.le_refl _)) (HL.out.below HBd.out.below (Nat.le_refl _))).mono ?_
    rintro e w3 ⟨a3, c3, rfl, ho, hB⟩
    have H3 := Lib.hid (lines_of_own ho).1
    have HB3 := Lib.hid (HBd.out.low hB)
    clear ho hB
    refine hKz.out _ _ HB3.out (fun hHeld => ?_)
    clear hKz Kz
    try simp only [Act.put, List.getElem_toArray, List.getElem_cons_succ, List.getElem_cons_zero, List.setIfInBounds_toArray, List.set_cons_zero, List.set_cons_succ]
    refine wpAnyH_ready (rs := [5]) (by kernel_rfl) (by simp) ?_
    refine AllReadyH.cons (o := ?or10_5) ?hr10_5 ?kr10_5 AllReadyH.nil
    case hr10_5 => exact rfl
    case kr10_5 =>
      intro Kz hKz
      go_simp
      refine (HP.out a3 c3 _ H3.out (HS.out.below HB3.out.below (Nat.le_refl _))).mono ?_
      rintro e w4 ⟨rfl, hB⟩
      have HB4 := Lib.hid (HB3.out.low hB)
      clear hB
      refine hKz.out _ _ HB4.out (fun hHeld => ?_)
      clear hKz Kz
      try simp only [Act.put, List.getElem_toArray, List.getElem_cons_succ, List.getElem_cons_zero, List.setIfInBounds_toArray, List.set_cons_zero, List.set_cons_succ]
      refine wpAnyH_take (i := 6) (oi := ?oiq5) (v := (.tuple #[.bool (passV (plyF ps (zs.take n)) t), .int .i64 (vpt (plyF ps (zs.take n)) [t])])) ?hiq5 (by kernel_rfl) (by kernel_rfl) (by kernel_rfl) ?hqq5 ?hyq5 hHeld ?restq5
      case hiq5 => exact rfl
      case hqq5 => exact fun _ _ _ h => h
      case hyq5 =>
        refine Or.inl ⟨by rfl, ?_⟩
        intro w hSw
        go_simp
        (try with_reducible rfl)
      try simp only [Act.put, List.getElem_toArray, List.getElem_cons_succ, List.getElem_cons_zero, List.setIfInBounds_toArray, List.set_cons_zero, List.set_cons_succ]
      refine wpAnyH_take (i := 7) (oi := ?oiq6) (v := (.bool (passV (plyF ps (zs.take n)) t))) ?hiq6 (by kernel_rfl) (by kernel_rfl) (by kernel_rfl) ?hqq6 ?hyq6 hHeld ?restq6
      case hiq6 => exact rfl
      case hqq6 => exact fun _ _ _ h => h
      case hyq6 =>
        refine Or.inl ⟨by rfl, ?_⟩
        intro w hSw
        go_simp
        (try with_reducible rfl)
      try simp only [Act.put, List.getElem_toArray, List.getElem_cons_succ, List.getElem_cons_zero, List.setIfInBounds_toArray, List.set_cons_zero, List.set_cons_succ]
      refine wpAnyH_take (i := 8) (oi := ?oiq7) (v := (.int .i64 (vpt (plyF ps (zs.take n)) [t]))) ?hiq7 (by kernel_rfl) (by kernel_rfl) (by kernel_rfl) ?hqq7 ?hyq7 hHeld ?restq7
      case hiq7 => exact rfl
      case hqq7 => exact fun _ _ _ h => h
      case hyq7 =>
        refine Or.inl ⟨by rfl, ?_⟩
        intro w hSw
        go_simp
        (try with_reducible rfl)
      try simp only [Act.put, List.getElem_toArray, List.getElem_cons_succ, List.getElem_cons_zero, List.setIfInBounds_toArray, List.set_cons_zero, List.set_cons_succ]
      refine wpAnyH_take (i := 9) (oi := ?oiq8) (v := (.bool (passV (plyF ps (zs.take n)) t))) ?hiq8 (by kernel_rfl) (by kernel_rfl) (by kernel_rfl) ?hqq8 ?hyq8 hHeld ?restq8
      case hiq8 => exact rfl
      case hqq8 => exact fun _ _ _ h => h
      case hyq8 =>
        refine Or.inl ⟨by rfl, ?_⟩
        intro w hSw
        go_simp
        (try with_reducible rfl)
      try simp only [Act.put, List.getElem_toArray, List.getElem_cons_succ, List.getElem_cons_zero, List.setIfInBounds_toArray, List.set_cons_zero, List.set_cons_succ]
      refine wpAnyH_take (i := 10) (oi := ?oiq9) (v := (.int .i64 (vpt (plyF ps (zs.take n)) [t]))) ?hiq9 (by kernel_rfl) (by kernel_rfl) (by kernel_rfl) ?hqq9 ?hyq9 hHeld ?restq9
      case hiq9 => exact rfl
      case hqq9 => exact fun _ _ _ h => h
      case hyq9 =>
        refine Or.inl ⟨by rfl, ?_⟩
        intro w hSw
        go_simp
        (try with_reducible rfl)
      try simp only [Act.put, List.getElem_toArray, List.getElem_cons_succ, List.getElem_cons_zero, List.setIfInBounds_toArray, List.set_cons_zero, List.set_cons_succ]
      refine wpAnyH_done (by kernel_rfl) ?_ _
      clear hHeld
      (try refine hKb _ _ ?_)
      go_wp2_with fail
      go_ret
      exact ⟨ret_bool HX.out, HB4.out.below⟩

set_option maxRecDepth 100000 in
set_option maxHeartbeats 4000000 in
theorem stGreen_any (a g b : Option Addr) (ca cg cb : Nat) (ps : List L) (h : List (List E)) (t : T) (w : World) (hp : LinesAt w a ps) (hh : RowsEAt w g h) (hs : IntsAt w b t.inn) (hil : t.inn.length ≤ 1000) (hpl : ps.length ≤ 1000) (hhl : h.length ≤ 1000) (hm : ∀ x ∈ h, x.length ≤ 1000) (hcg : h.length ≤ cg) :
    Calls Tryz.prog 21 #[.slice a ps.length ca, .slice g h.length cg, .agg #[.slice b t.inn.length cb, .int .i64 t.out, .int .i64 t.want]] w (GivesIntsE (grR ps h t) (vht ps h [t]) w) := by
  have HI := Lib.hid (boxT_new (a := b) (n := t.inn.length) (ca := cb) (out := t.out) (want := t.want) w)
  have x0 := HI.out.c0
  have x1 := HI.out.c1
  have x2 := HI.out.c2
  have HV := Lib.hid (fun u w h1 h2 h3 => stVts_any a g u ca cg 1 ps h [t] w h1 h2 h3 hpl hhl hm (by simp) (by simpa using hil))
  have HS := Lib.hid (hs.below HI.out.below (Nat.le_refl _))
  have HS0 := Lib.hid hs
  have HH := Lib.hid hh
  have HL := Lib.hid hp
  by_cases hz : vht ps h [t] = 0
  · have hv := (vht_ok hz).1
    have h8 := (vst_ok hv).2.1
    have HP := Lib.hid (fun n hn w h1 h2 h3 => stPas_any g a b cg ca cb h ps n t w h1 h2 h3 hil (okZ_of hv) h8 hcg hn (vht_t hz))
    obtain ⟨N, hN⟩ : ∃ N, N = h.length + 1 := ⟨_, rfl⟩
    have HR := Lib.hid (show grR ps h t = ints ((List.range N).filter (paB ps h t)) by unfold grR; rw [hN]; exact if_pos hz)
    have hmb := mkBools1 h.length N h8 hN
    have HN := Lib.hid hN
    have hN9 : N ≤ 9 := by omega
    rw [HR.out, hz]
    rw [hz] at HV
    clear hz hp hh hm hs HR hv hN
    go_enter Tryz.func21, Tryz.ntmps21
    go_wp2_with fail
    refine (HV.out _ _ ?_ ?_ ?_).mono ?_
    · exact HL.out.below (HI.out.below.alloc HI.out.below.size _) (Nat.le_refl _)
    · exact HH.out.below (HI.out.below.alloc HI.out.below.size _) (Nat.le_refl _)
    · exact tests_one (by simp) HS.out
    rintro e w1 ⟨rfl, hB⟩
    have HI1 := Lib.hid ((HI.out.low ((Below.refl _ _).alloc (Nat.le_refl _) _)).low hB)
    clear hB x0 x1 x2 HI HS
    obtain ⟨M, hM⟩ : ∃ M, M = w1.heap.size := ⟨_, rfl⟩
    have HG0 := Lib.hid (show (w1.alloc (.cells (bv (List.replicate N false)) 4)).heap[M]? = some (.cells (bv (bL (fun i => decide (i < 0) && paB ps h t i) N)) 4 (0, 0)) from by
      have : bL (fun i => decide (i < 0) && paB ps h t i) N = List.replicate N false := by rw [← bL_rep]; exact bL_eq fun x _ => by simp
      rw [this, hM]
      exact heap_new _ _)
    have HI2 := Lib.hid (HI1.out.low ((Below.refl w1.heap.size w1).alloc (Nat.le_refl _) (.cells (bv (List.replicate N false)) 4)))
    have hMw : w.heap.size < M := by rw [hM]; exact hp_lt HI1.out.bl
    go_upto_region 5 with fail
    rw [← hM]
    generalize w1.alloc (.cells (bv (List.replicate N false)) 4) = w2 at *
    clear hmb hM HV HI1
    go_wp2_with fail
    go_loopw [25] (fun s25 wr => ∃ k : Nat, k ≤ N ∧ s25 = .int .i64 k ∧ wr.heap[M]? = some (.cells (bv (bL (fun i => decide (i < k) && paB ps h t i) N)) 4 (0, 0)) ∧ BoxT w.heap.size b t.inn.length cb t.out t.want w wr) (fun s25 _ => N - (intOf s25).toNat)
    case atStart => exact ⟨0, Nat.zero_le _, rfl, HG0.out, HI2.out⟩
    case round =>
      clear HG0 HI2
      obtain ⟨k, hk, rfl, hG, hI⟩ := hrel
      have HG := Lib.hid hG
      have HI := Lib.hid hI
      clear hG hI
      by_cases hlt : k < N
      · have P1 := Lib.hid (HP.out k (by have := HN.out; omega))
        have j0 : (0 : Int) ≤ (k : Int) := by omega
        have j1 : (k : Int) < (N : Int) := by omega
        have x0 := HI.out.c0
        have x1 := HI.out.c1
        have x2 := HI.out.c2
        clear HP
        go_wp2_with fail
        refine (P1.out _ (HH.out.below HI.out.below (Nat.le_refl _)) (HL.out.below HI.out.below (Nat.le_refl _)) (HS0.out.below HI.out.below (Nat.le_refl _))).mono ?_
        rintro e w5 ⟨rfl, hB⟩
        have HG := Lib.hid (hp_below HG.out hB (hp_lt HG.out))
        have HI := Lib.hid (HI.out.low hB)
        clear hB x0 x1 x2
        have b0 := hp_free HG.out k
        have b1 := hp_cell HG.out (bv_get _ k (by rw [bL_len]; exact hlt))
        have HG2 := Lib.hid (show (w5.setCell ⟨M, k, none⟩ (.bool (paB ps h t k))).heap[M]? = some (.cells (bv (bL (fun i => decide (i < k + 1) && paB ps h t i) N)) 4 (0, 0)) from by
          have q := hp_put HG.out k (.bool (paB ps h t k))
          rw [bv_set, bL_put, show bL (fun i => if i = k then paB ps h t k else decide (i < k) && paB ps h t i) N = bL (fun i => decide (i < k + 1) && paB ps h t i) N from bL_eq fun x _ => by
            by_cases hx : x = k
            · subst hx; simp
            · have : decide (x < k + 1) = decide (x < k) := by rw [decide_eq_decide]; omega
              simp [hx, this]] at q
          exact q)
        have HI2 := Lib.hid (show BoxT w.heap.size b t.inn.length cb t.out t.want w (w5.setCell ⟨M, k, none⟩ (.bool (paB ps h t k))) from ⟨hp_set HI.out.bl (by show w.heap.size ≠ M; omega) _, HI.out.below.setCell (p := ⟨M, k, none⟩) (by show w.heap.size ≤ M; omega) _⟩)
        clear HG HI
        go_wp2_with fail
        go_roundw
        case rel => exact ⟨k + 1, by omega, by go_num, HG2.out, HI2.out⟩
        case measure => simp [intOf]; omega
      · obtain rfl : k = N := by omega
        have hMl := hp_lt HG.out
        obtain ⟨bs, hbs⟩ : ∃ bs, bs = bL (fun i => decide (i < k) && paB ps h t i) k := ⟨_, rfl⟩
        have hbl : bs.length = k := by rw [hbs, bL_len]
        have HPL := Lib.hid (show plc bs = ints ((List.range k).filter (paB ps h t)) from plc_ints hbl fun i hi => by rw [hbs, bL_get _ hi]; simp [hi])
        have HGG := Lib.hid (show wr.heap[M]? = some (.cells (bv bs) 4 (0, 0)) from by rw [hbs]; exact HG.out)
        have HQ := Lib.hid (places_any M 0 k bs wr (bools8_at HGG.out) hMl (by have := HN.out; omega))
        rw [HPL.out, hbl] at HQ
        clear hbs hbl HPL HG
        go_wp2_with fail
        refine HQ.out.mono ?_
        rintro e w3 ⟨a3, c3, rfl, ho, hB⟩
        have HO := Lib.hid (own_mono ho HI.out.below.size)
        have HB3 := Lib.hid (HI.out.below.trans (hB.mono HI.out.below.size))
        clear ho hB
        go_wp2_with fail
        go_ret2
        exact ⟨a3, c3, rfl, HO.out, HB3.out⟩
  · have HR := Lib.hid (show grR ps h t = [] by unfold grR; exact if_neg hz)
    have hz1 : (vht ps h [t] != 0) = true := by simpa using hz
    rw [HR.out]
    clear hz hp hh hm hs HR
    generalize vht ps h [t] = c at HV hz1 ⊢
    go_enter Tryz.func21, Tryz.ntmps21
    go_wp2_with fail
    refine (HV.out _ _ ?_ ?_ ?_).mono ?_
    · exact HL.out.below (HI.out.below.alloc HI.out.below.size _) (Nat.le_refl _)
    · exact HH.out.below (HI.out.below.alloc HI.out.below.size _) (Nat.le_refl _)
    · exact tests_one (by simp) HS.out
    rintro e w1 ⟨rfl, hB⟩
    have HB := Lib.hid ((HI.out.low ((Below.refl _ _).alloc (Nat.le_refl _) _)).low hB).below
    clear hB
    go_wp2_with fail
    go_ret2
    exact givesIntsE_nil HB.out

end Go.Proofs.YtikblaebfpdngaaGreat

/- tested, passes, Green of the document (tinkerref07): contracts. -/
set_option linter.unusedVariables false
set_option linter.unusedSimpArgs false
namespace Go.Proofs.YtikblaebfpdngaaGreat
open Go.RowKit Tinker

theorem info_boolG : (Tryz.prog.info? 4).map (fun i => (i.zero, i.size, i.bytes)) = some (some (.bool false), 1, 1) := by kernel_rfl

set_option maxRecDepth 100000 in
set_option maxHeartbeats 1000000 in
theorem rTested7_any (a g u : Option Addr) (ca cg cu : Nat) (ps : List L) (h : List (List E)) (ts : List T) (w : World) (hp : LinesAt w a ps) (hh : RowsEAt w g h) (ht : TestsAt w u ts) (hpl : ps.length ≤ 1000) (hhl : h.length ≤ 1000) (hm : ∀ x ∈ h, x.length ≤ 1000) :
    Calls Tryz.prog 49 #[.slice a ps.length ca, .slice g h.length cg, .slice u ts.length cu] w fun e w' => e = .returned (.int .i64 (vht ps h ts)) ∧ Below w.heap.size w w' := by
  have HV := Lib.hid (rHval_any a g ca cg ps h w hp hh hpl hhl hm)
  have HT := Lib.hid (fun w h => rValidateTests_any u cu ts w h)
  have HU := Lib.hid ht
  by_cases hz : vst ps h = 0
  · have HX := Lib.hid (show vht ps h ts = vts ts by unfold vht fe; exact if_pos hz)
    rw [HX.out]
    rw [hz] at HV
    clear hp hh hm ht hz HX
    generalize vts ts = d at *
    go_enter Tryz.func49, Tryz.ntmps49
    go_wp2_with fail
    refine HV.out.mono ?_
    rintro e w1 ⟨rfl, hB⟩
    have HB := Lib.hid hB
    clear hB
    go_wp2_with fail
    refine (HT.out _ (HU.out.below HB.out (Nat.le_refl _))).mono ?_
    rintro e w2 ⟨rfl, hB⟩
    have HB2 := Lib.hid (HB.out.trans (hB.mono HB.out.size))
    clear hB
    go_wp2_with fail
    go_ret
    exact ⟨rfl, HB2.out⟩
  · have HX := Lib.hid (show vht ps h ts = vst ps h by unfold vht fe; exact if_neg hz)
    have hz1 : (vst ps h != 0) = true := by simpa using hz
    rw [HX.out]
    clear hp hh hm ht hz HX HT
    generalize vst ps h = c at *
    go_enter Tryz.func49, Tryz.ntmps49
    go_wp2_with fail
    refine HV.out.mono ?_
    rintro e w1 ⟨rfl, hB⟩
    have HB := Lib.hid hB
    clear hB
    go_wp2_with fail
    go_ret
    exact ⟨rfl, HB.out⟩

set_option maxRecDepth 100000 in
set_option maxHeartbeats 8000000 in
theorem rPas7_any (a g b : Option Addr) (ca cg cb : Nat) (ps : List L) (h : List (List E)) (t : T) (w : World) (hp : LinesAt w a ps) (hc : a = none → ca = 0) (hh : RowsEAt w g h) (hs : IntsAt w b t.inn) (hv : vst ps h = 0) (ht : isT t = true) :
    Calls Tryz.prog 50 #[.slice a ps.length ca, .slice g h.length cg, .agg #[.slice b t.inn.length cb, .int .i64 t.out, .int .i64 t.want]] w fun e w' => ∃ q c, e = .returned (.slice (some ⟨q, 0, none⟩) (h.length + 1) c) ∧ q < w'.heap.size ∧ (∀ k, k < h.length + 1 → w'.cell? ⟨q, k, none⟩ = some (.bool (paB ps h t k))) ∧ Below w.heap.size w w' := by
  obtain ⟨i0, hi, hz0, hz1, hz2⟩ := info_parts info_boolG
  have h8 := (vst_ok hv).2.1
  have hp8 := (vp_ok (vst_ok hv).1).1
  have HI0 := Lib.hid (boxT_new (a := b) (n := t.inn.length) (ca := cb) (out := t.out) (want := t.want) w)
  have HP := Lib.hid (fun m (hml : m ≤ h.length) v cv w h1 h2 h3 => by
    have h9 := rPlay_any a g v ca cg cv ps h (List.range m) w h1 hc h2 h3 hp8 (by omega) (by rw [List.length_range]; omega) (rok_of hv (fun n hn => by have := List.mem_range.1 hn; omega))
    rw [← plyF_take ps h hml, List.length_range] at h9
    exact h9)
  have HF := Lib.hid (fun (m : Nat) (hml : m ≤ h.length) w => by
    have h9 := rFirst_any m w (by omega)
    unfold GivesInts at h9
    rw [ints_len, List.length_range] at h9
    exact h9)
  have HE := Lib.hid (fun (m : Nat) a' c' w h1 h2 => show Calls Tryz.prog 82 #[.slice a' (plyF ps (h.take m)).length c', .agg #[.slice b t.inn.length cb, .int .i64 t.out, .int .i64 t.want]] w fun e w' => e = .returned (.bool (paB ps h t m)) ∧ Below w.heap.size w w' from rPasses4_any a' b c' cb (plyF ps (h.take m)) t w h1 h2 (plyF_vp ((okZ_of hv).take m)) ht)
  have HH := Lib.hid hh
  have HL := Lib.hid hp
  have HS := Lib.hid hs
  obtain ⟨N, hN⟩ : ∃ N, N = h.length + 1 := ⟨_, rfl⟩
  rw [← hN]
  have HN := Lib.hid hN
  have hN9 : N ≤ 9 := by omega
  clear hh hp hs hv ht hc hN
  go_enter Tryz.func50, Tryz.ntmps50
  go_upto_region 1 with fail
  have HI1 := HI0
  clear HI0
  generalize World.alloc _ _ = w1 at *
  go_wp2_with fail
  go_loopw [7, 8] (fun s7 s8 wr => ∃ k : Nat, k ≤ N ∧ s8 = .int .i64 k ∧ wr.ownsRow w1.heap.size 4 1 s7 k ((bL (paB ps h t) k).map Value.bool) ∧ Below w1.heap.size w1 wr) (fun _ s8 _ => N - (intOf s8).toNat)
  case atStart => exact ⟨0, Nat.zero_le _, rfl, World.ownsRow_nil _ _ _ _, Below.refl _ _⟩
  case round =>
    obtain ⟨k, hk, rfl, hO, hB⟩ := hrel
    obtain ⟨av, cv, rfl⟩ := own_slice hO
    have HO := Lib.hid hO
    have HB := Lib.hid hB
    clear hO hB
    by_cases hlt : k < N
    · have hkl : (k : Int) ≤ (h.length : Int) := by have := HN.out; omega
      have hkl2 : k ≤ h.length := by have := HN.out; omega
      have P1 := Lib.hid (HP.out k (by omega))
      have F1 := Lib.hid (HF.out k (by omega))
      have E1 := Lib.hid (HE.out k)
      generalize plyF ps (h.take k) = q1 at *
      clear HP HF HE
      go_upto_region 5 with fail
      refine wp_region_held_drew (S := (fun W2 => BoxT w.heap.size b t.inn.length cb t.out t.want w W2)) (by kernel_rfl) ?_ (fun hHeld => ?_)
      · exact (HI1.out.low HB.out).drew
      have HI := Lib.hid (HI1.out.low HB.out).drew
      have HBd := Lib.hid HB.out.drew
      have HOd := Lib.hid (show wr.drew.ownsRow w1.heap.size 4 1 (.slice av k cv) k ((bL (paB ps h t) k).map Value.bool) from own_below HO.out (Below.refl wr.heap.size wr).drew (Nat.le_refl _))
      clear HO HB
      generalize World.drew _ = Wd at *
      refine wpAnyH_take (i := 0) (oi := ?oiq1) (v := (.slice av k cv)) ?hiq1 (by kernel_rfl) (by kernel_rfl) (by kernel_rfl) ?hqq1 ?hyq1 hHeld ?restq1
      case hiq1 => exact rfl
      case hqq1 => exact fun _ _ _ h => h
      case hyq1 =>
        refine Or.inl ⟨by rfl, ?_⟩
        intro w hSw
        go_simp
        (try with_reducible rfl)
      try simp only [Act.put, List.getElem_toArray, List.getElem_cons_succ, List.getElem_cons_zero, List.setIfInBounds_toArray, List.set_cons_zero, List.set_cons_succ]
      refine wpAnyH_take (i := 1) (oi := ?oiq2) (v := (.slice a ps.length ca)) ?hiq2 (by kernel_rfl) (by kernel_rfl) (by kernel_rfl) ?hqq2 ?hyq2 hHeld ?restq2
      case hiq2 => exact rfl
      case hqq2 => exact fun _ _ _ h => h
      case hyq2 =>
        refine Or.inl ⟨by rfl, ?_⟩
        intro w hSw
        go_simp
        (try with_reducible rfl)
      try simp only [Act.put, List.getElem_toArray, List.getElem_cons_succ, List.getElem_cons_zero, List.setIfInBounds_toArray, List.set_cons_zero, List.set_cons_succ]
      refine wpAnyH_take (i := 2) (oi := ?oiq3) (v := (.slice g h.length cg)) ?hiq3 (by kernel_rfl) (by kernel_rfl) (by kernel_rfl) ?hqq3 ?hyq3 hHeld ?restq3
      case hiq3 => exact rfl
      case hqq3 => exact fun _ _ _ h => h
      case hyq3 =>
        refine Or.inl ⟨by rfl, ?_⟩
        intro w hSw
        go_simp
        (try with_reducible rfl)
      try simp only [Act.put, List.getElem_toArray, List.getElem_cons_succ, List.getElem_cons_zero, List.setIfInBounds_toArray, List.set_cons_zero, List.set_cons_succ]
      refine wpAnyH_take (i := 3) (oi := ?oiq4) (v := (.int .i64 k)) ?hiq4 (by kernel_rfl) (by kernel_rfl) (by kernel_rfl) ?hqq4 ?hyq4 hHeld ?restq4
      case hiq4 => exact rfl
      case hqq4 => exact fun _ _ _ h => h
      case hyq4 =>
        refine Or.inl ⟨by rfl, ?_⟩
        intro w hSw
        go_simp
        (try with_reducible rfl)
      try simp only [Act.put, List.getElem_toArray, List.getElem_cons_succ, List.getElem_cons_zero, List.setIfInBounds_toArray, List.set_cons_zero, List.set_cons_succ]
      refine wpAnyH_take (i := 6) (oi := ?oiq5) (v := (.agg #[.slice b t.inn.length cb, .int .i64 t.out, .int .i64 t.want])) ?hiq5 (by kernel_rfl) (by kernel_rfl) (by kernel_rfl) ?hqq5 ?hyq5 hHeld ?restq5
      case hiq5 => exact rfl
      case hqq5 => exact fun _ _ _ h => h
      case hyq5 =>
        refine Or.inl ⟨by rfl, ?_⟩
        intro w hSw
        have m0 := hSw.c0
        have m1 := hSw.c1
        have m2 := hSw.c2
        go_simp
        (try with_reducible rfl)
      try simp only [Act.put, List.getElem_toArray, List.getElem_cons_succ, List.getElem_cons_zero, List.setIfInBounds_toArray, List.set_cons_zero, List.set_cons_succ]
      refine wpAnyH_ready (rs := [4]) (by kernel_rfl) (by simp) ?_
      refine AllReadyH.cons (o := ?or11_4) ?hr11_4 ?kr11_4 AllReadyH.nil
      case hr11_4 => exact rfl
      case kr11_4 =>
        intro Kz hKz
        go_simp
        refine (F1.out _).mono ?_
        rintro e w3 ⟨a3, c3, rfl, ho, hB⟩
        have HI3 := Lib.hid (HI.out.low hB)
        have HB3 := Lib.hid (HBd.out.trans (hB.mono HBd.out.size))
        have HO3 := Lib.hid (own_below HOd.out hB (Nat.le_refl _))
        have HV3 := Lib.hid (ints_of_own ho).1
        clear ho
        clear hB
        refine hKz.out _ _ HI3.out (fun hHeld => ?_)
        clear hKz Kz
        try simp only [Act.put, List.getElem_toArray, List.getElem_cons_succ, List.getElem_cons_zero, List.setIfInBounds_toArray, List.set_cons_zero, List.set_cons_succ]
        refine wpAnyH_ready (rs := [5]) (by kernel_rfl) (by simp) ?_
        refine AllReadyH.cons (o := ?or10_5) ?hr10_5 ?kr10_5 AllReadyH.nil
        case hr10_5 => exact rfl
        case kr10_5 =>
          intro Kz hKz
          go_simp
          refine (P1.out _ _ _ (HL.out.below HI3.out.below (Nat.le_refl _)) (HH.out.below HI3.out.below (Nat.le_refl _)) HV3.out).mono ?_
          rintro e w4 ⟨a4, c4, rfl, ho, hB⟩
          have HI4 := Lib.hid (HI3.out.low hB)
          have HB4 := Lib.hid (HB3.out.trans (hB.mono HB3.out.size))
          have HO4 := Lib.hid (own_below HO3.out hB (Nat.le_refl _))
          have HQ4 := Lib.hid (lines_of_own ho).1
          clear ho
          clear hB
          refine hKz.out _ _ HI4.out (fun hHeld => ?_)
          clear hKz Kz
          try simp only [Act.put, List.getElem_toArray, List.getElem_cons_succ, List.getElem_cons_zero, List.setIfInBounds_toArray, List.set_cons_zero, List.set_cons_succ]
          refine wpAnyH_ready (rs := [7]) (by kernel_rfl) (by simp) ?_
          refine AllReadyH.cons (o := ?or9_7) ?hr9_7 ?kr9_7 AllReadyH.nil
          case hr9_7 => exact rfl
          case kr9_7 =>
            intro Kz hKz
            go_simp
            refine (E1.out _ _ _ HQ4.out (HS.out.below HI4.out.below (Nat.le_refl _))).mono ?_
            rintro e w5 ⟨rfl, hB⟩
            have HI5 := Lib.hid (HI4.out.low hB)
            have HB5 := Lib.hid (HB4.out.trans (hB.mono HB4.out.size))
            have HO5 := Lib.hid (own_below HO4.out hB (Nat.le_refl _))
            clear hB
            refine hKz.out _ _ HI5.out (fun hHeld => ?_)
            clear hKz Kz
            try simp only [Act.put, List.getElem_toArray, List.getElem_cons_succ, List.getElem_cons_zero, List.setIfInBounds_toArray, List.set_cons_zero, List.set_cons_succ]
            refine wpAnyH_ready (rs := [8]) (by kernel_rfl) (by simp) ?_
            refine AllReadyH.cons (o := ?or8_8) ?hr8_8 ?kr8_8 AllReadyH.nil
            case hr8_8 => exact rfl
            case kr8_8 =>
              intro Kz hKz
              go_simp
              have HI6 := Lib.hid (HI5.out.low ((Below.refl w5.heap.size w5).alloc (Nat.le_refl _) (.cells #[.bool (paB ps h t k)] 4)))
              refine hKz.out _ _ HI6.out (fun hHeld => ?_)
              clear hKz Kz
              try simp only [Act.put, List.getElem_toArray, List.getElem_cons_succ, List.getElem_cons_zero, List.setIfInBounds_toArray, List.set_cons_zero, List.set_cons_succ]
              refine wpAnyH_ready (rs := [9]) (by kernel_rfl) (by simp) ?_
              refine AllReadyH.cons (o := ?or7_9) ?hr7_9 ?kr7_9 AllReadyH.nil
              case hr7_9 => exact rfl
              case kr7_9 =>
                intro Kz hKz
                rw [if_pos (by rfl)]
                refine wp_append_new (.tmp 15) (.tmp 23) 75 rfl w1.heap.size 4 i0 (.bool false) 1 1 Tryz.underlying75 hi hz0 hz1 hz2 rfl (by decide) (.slice av k cv) k ((bL (paB ps h t) k).map Value.bool) rfl (HO5.out.alloc _) ⟨w5.heap.size, 0, none⟩ 1 1 [.bool (paB ps h t k)] rfl rfl (cell_one_new _ _ _) (by intro u hu; simp at hu; subst hu; rfl) (by simp [maxLen]; omega) (by omega) (by have := HB5.out.size; simp; omega) ?_
                intro v8 w8 hown8 hgrow8 _
                have HB8 := Lib.hid (show Below w1.heap.size w1 w8 from (HB5.out.alloc HB5.out.size _).grown hgrow8 (by have := HB5.out.size; simp; omega) (own_base HO5.out))
                have e : (bL (paB ps h t) k).map Value.bool ++ [.bool (paB ps h t k)] = (bL (paB ps h t) (k + 1)).map Value.bool := by unfold bL; rw [List.range_succ]; simp
                rw [e] at hown8
                have HO8 := Lib.hid hown8
                have HI8 := Lib.hid (HI1.out.low HB8.out)
                clear hown8 hgrow8 e
                refine hKz.out _ _ HI8.out (fun hHeld => ?_)
                clear hKz Kz
                try simp only [Act.put, List.getElem_toArray, List.getElem_cons_succ, List.getElem_cons_zero, List.setIfInBounds_toArray, List.set_cons_zero, List.set_cons_succ]
                refine wpAnyH_take (i := 10) (oi := ?oiq6) (v := v8) ?hiq6 (by kernel_rfl) (by kernel_rfl) (by kernel_rfl) ?hqq6 ?hyq6 hHeld ?restq6
                case hiq6 => exact rfl
                case hqq6 => exact fun _ _ _ h => h
                case hyq6 =>
                  refine Or.inl ⟨by rfl, ?_⟩
                  intro w hSw
                  go_simp
                  (try with_reducible rfl)
                try simp only [Act.put, List.getElem_toArray, List.getElem_cons_succ, List.getElem_cons_zero, List.setIfInBounds_toArray, List.set_cons_zero, List.set_cons_succ]
                refine wpAnyH_done (by kernel_rfl) ?_ _
                clear hHeld
                go_wp2_with fail
                go_roundw
                case rel => exact ⟨k + 1, by omega, by go_num, HO8.out, HB8.out⟩
                case measure => simp [intOf]; omega
    · obtain rfl : k = N := by omega
      have hkl : ¬ (k : Int) ≤ (h.length : Int) := by have := HN.out; omega
      have hkl2 : ¬ k ≤ h.length := by have := HN.out; omega
      obtain ⟨q, rfl⟩ := own_form HO.out (by have := HN.out; omega)
      have HQ := Lib.hid (fun j (hj : j < k) => own_cell HO.out (show ((bL (paB ps h t) k).map Value.bool)[j]? = some (.bool (paB ps h t j)) by unfold bL; simp [hj]))
      have HQL := Lib.hid (own_lt HO.out)
      have HBB := Lib.hid ((HI1.out.low HB.out).below)
      go_wp2_with fail
      go_ret
      exact ⟨q, ⟨cv, rfl⟩, HQL.out, HQ.out, HBB.out⟩

set_option maxRecDepth 100000 in
set_option maxHeartbeats 4000000 in
theorem rGreen_any (a g b : Option Addr) (ca cg cb : Nat) (ps : List L) (h : List (List E)) (t : T) (w : World) (hp : LinesAt w a ps) (hc : a = none → ca = 0) (hh : RowsEAt w g h) (hs : IntsAt w b t.inn) (hpl : ps.length ≤ 1000) (hhl : h.length ≤ 1000) (hm : ∀ x ∈ h, x.length ≤ 1000) :
    Calls Tryz.prog 22 #[.slice a ps.length ca, .slice g h.length cg, .agg #[.slice b t.inn.length cb, .int .i64 t.out, .int .i64 t.want]] w (GivesIntsE (grR ps h t) (vht ps h [t]) w) := by
  have HI := Lib.hid (boxT_new (a := b) (n := t.inn.length) (ca := cb) (out := t.out) (want := t.want) w)
  have x0 := HI.out.c0
  have x1 := HI.out.c1
  have x2 := HI.out.c2
  have HV := Lib.hid (fun u w h1 h2 h3 => rTested7_any a g u ca cg 1 ps h [t] w h1 h2 h3 hpl hhl hm)
  have HS := Lib.hid (hs.below HI.out.below (Nat.le_refl _))
  have HS0 := Lib.hid hs
  have HH := Lib.hid hh
  have HL := Lib.hid hp
  by_cases hz : vht ps h [t] = 0
  · obtain ⟨i0, hi, hz0, hz1, hz2⟩ := info_parts info_int
    have hv := (vht_ok hz).1
    have h8 := (vst_ok hv).2.1
    have HP := Lib.hid (fun w h1 h2 h3 => rPas7_any a g b ca cg cb ps h t w h1 hc h2 h3 hv (vht_t hz))
    obtain ⟨N, hN⟩ : ∃ N, N = h.length + 1 := ⟨_, rfl⟩
    have HR := Lib.hid (show grR ps h t = ints ((List.range N).filter (paB ps h t)) by unfold grR; rw [hN]; exact if_pos hz)
    rw [← hN] at HP
    have hN9 : N ≤ 9 := by omega
    rw [HR.out, hz]
    rw [hz] at HV
    clear hz hp hh hm hs HR hv hc hN
    go_enter Tryz.func22, Tryz.ntmps22
    go_wp2_with fail
    refine (HV.out _ _ ?_ ?_ ?_).mono ?_
    · exact HL.out.below (HI.out.below.alloc HI.out.below.size _) (Nat.le_refl _)
    · exact HH.out.below (HI.out.below.alloc HI.out.below.size _) (Nat.le_refl _)
    · exact tests_one (by simp) HS.out
    rintro e w1 ⟨rfl, hB⟩
    have HI1 := Lib.hid ((HI.out.low ((Below.refl _ _).alloc (Nat.le_refl _) _)).low hB)
    clear hB x0 x1 x2 HI HS
    have x0 := HI1.out.c0
    have x1 := HI1.out.c1
    have x2 := HI1.out.c2
    go_wp2_with fail
    refine (HP.out _ (HL.out.below HI1.out.below (Nat.le_refl _)) (HH.out.below HI1.out.below (Nat.le_refl _)) (HS0.out.below HI1.out.below (Nat.le_refl _))).mono ?_
    rintro e w2 ⟨q, c, rfl, hq, hc, hB⟩
    have HC := Lib.hid hc
    have HB2 := Lib.hid (HI1.out.below.trans (hB.mono HI1.out.below.size))
    clear hc hB x0 x1 x2
    go_wp2_with fail
    go_loopw [10, 11] (fun s10 s11 wr => ∃ k : Nat, k ≤ N ∧ s11 = .int .i64 k ∧ wr.ownsRow w2.heap.size 3 1 s10 (ints ((List.range k).filter (paB ps h t))).length ((ints ((List.range k).filter (paB ps h t))).map (Value.int .i64)) ∧ Below w2.heap.size w2 wr) (fun _ s11 _ => N - (intOf s11).toNat)
    case atStart => exact ⟨0, Nat.zero_le _, rfl, World.ownsRow_nil _ _ _ _, Below.refl _ _⟩
    case round =>
      obtain ⟨k, hk, rfl, hown, hB⟩ := hrel
      have HO := Lib.hid hown
      have HB := Lib.hid hB
      clear hown hB
      by_cases hlt : k < N
      · have q0 := (HB.out.cell (p := ⟨q, k, none⟩) hq).trans (HC.out k hlt)
        have j0 : (0 : Int) ≤ (k : Int) := by omega
        have j1 : (k : Int) < (N : Int) := by omega
        have hlen := flt_len (paB ps h t) k
        cases hI : paB ps h t k
        · rw [hI] at q0
          have HN := Lib.hid (flt_no hI)
          clear hI
          go_wp2_with fail
          go_roundw
          case rel => exact ⟨k + 1, by omega, by go_num, by rw [HN.out]; exact HO.out, HB.out⟩
          case measure => simp [intOf]; omega
        · rw [hI] at q0
          have HN := Lib.hid (flt_yes hI)
          clear hI
          go_wp2_with (at_builtin; refine wpList_append_own _ rfl (.tmp 34) (.tmp 36) 24 rfl w2.heap.size 3 i0 (.int .i64 0) 1 8 Tryz.underlying24 hi hz0 hz1 hz2 rfl (by decide) _ _ _ rfl (HO.out.alloc _) ⟨wr.heap.size, 0, none⟩ 1 1 [.int .i64 k] rfl rfl ?c1 ?c2 ?c3 ?c4 ?c5 ?_)
          case c1 => exact cell_one_new _ _ _
          case c2 => simp [Value.oneCell']
          case c3 => unfold maxLen; omega
          case c4 => omega
          case c5 => have := HB.out.size; simp; omega
          intro v' w3 hown' hgrow _
          have hB1 : Below w2.heap.size w2 w3 := (HB.out.alloc HB.out.size _).grown hgrow (by have := HB.out.size; simp; omega) (own_base HO.out)
          have e : (ints ((List.range k).filter (paB ps h t))).map (Value.int .i64) ++ [.int .i64 k] = (ints ((List.range (k + 1)).filter (paB ps h t))).map (Value.int .i64) := by rw [HN.out]; simp
          have e2 : (ints ((List.range k).filter (paB ps h t))).length + 1 = (ints ((List.range (k + 1)).filter (paB ps h t))).length := by rw [HN.out]; simp
          rw [e, e2] at hown'
          have HO3 := Lib.hid hown'
          have HB3 := Lib.hid hB1
          clear hown' hgrow e e2 hB1 HO HB
          go_wp2_with fail
          go_roundw
          case rel => exact ⟨k + 1, by omega, by go_num, HO3.out, HB3.out⟩
          case measure => simp [intOf]; omega
      · obtain rfl : k = N := by omega
        have hO9 := HO.out
        obtain ⟨av, cv, rfl⟩ := own_slice hO9
        clear hO9
        go_wp2_with fail
        go_ret2
        exact ⟨av, cv, rfl, own_mono HO.out HB2.out.size, HB2.out.trans (HB.out.mono HB2.out.size)⟩
  · have HR := Lib.hid (show grR ps h t = [] by unfold grR; exact if_neg hz)
    have hz1 : (vht ps h [t] != 0) = true := by simpa using hz
    rw [HR.out]
    clear hz hp hh hm hs HR
    generalize vht ps h [t] = c at HV hz1 ⊢
    go_enter Tryz.func22, Tryz.ntmps22
    go_wp2_with fail
    refine (HV.out _ _ ?_ ?_ ?_).mono ?_
    · exact HL.out.below (HI.out.below.alloc HI.out.below.size _) (Nat.le_refl _)
    · exact HH.out.below (HI.out.below.alloc HI.out.below.size _) (Nat.le_refl _)
    · exact tests_one (by simp) HS.out
    rintro e w1 ⟨rfl, hB⟩
    have HB := Lib.hid ((HI.out.low ((Below.refl _ _).alloc (Nat.le_refl _) _)).low hB).below
    clear hB
    go_wp2_with fail
    go_ret2
    exact givesIntsE_nil HB.out

end Go.Proofs.YtikblaebfpdngaaGreat

/- Bisect of story: contracts. -/
set_option linter.unusedVariables false
set_option linter.unusedSimpArgs false
namespace Tinker
theorem bisF_end {P : Nat → Bool} {k f t : Nat} (h : t - f ≤ 1) : bisF P k f t = f := by
  cases k with
  | zero => rfl
  | succ k => unfold bisF; rw [if_neg (by omega)]
theorem bisF_same {P : Nat → Bool} {k f t : Nat} (h : 1 < t - f) (hk : t - f ≤ k) (hp : (P ((f + t) / 2) == P 0) = true) : ∃ k', bisF P k f t = bisF P k' ((f + t) / 2) t ∧ t - (f + t) / 2 ≤ k' := by
  cases k with
  | zero => omega
  | succ k => exact ⟨k, by rw [bisF, if_pos h, if_pos hp], by omega⟩
theorem bisF_other {P : Nat → Bool} {k f t : Nat} (h : 1 < t - f) (hk : t - f ≤ k) (hp : (P ((f + t) / 2) == P 0) = false) : ∃ k', bisF P k f t = bisF P k' f ((f + t) / 2) ∧ (f + t) / 2 - f ≤ k' := by
  cases k with
  | zero => omega
  | succ k => exact ⟨k, by rw [bisF, if_pos h, if_neg (by rw [hp]; decide)], by omega⟩
end Tinker
namespace Go.Proofs.YtikblaebfpdngaaGreat
open Go.RowKit Tinker

theorem below_drewN8 (w : World) (n : Nat) : Below w.heap.size w (w.drewN n) := ⟨rfl, rfl, rfl, Nat.le_refl _, fun _ _ => rfl⟩
def bsC (ps : List L) (h : List (List E)) (t : T) : Int := if vht ps h [t] = 0 then (if paB ps h t h.length == paB ps h t 0 then 8 else 0) else vht ps h [t]
def bsN (ps : List L) (h : List (List E)) (t : T) : Int := if bsC ps h t = 0 then ((bisF (paB ps h t) h.length 0 h.length : Nat) : Int) else 0
theorem bs_v {ps : List L} {h : List (List E)} {t : T} (hz : vht ps h [t] ≠ 0) : bsC ps h t = vht ps h [t] ∧ bsN ps h t = 0 := by
  have h1 : bsC ps h t = vht ps h [t] := by unfold bsC; rw [if_neg hz]
  exact ⟨h1, by unfold bsN; rw [h1, if_neg hz]⟩
theorem bs_8 {ps : List L} {h : List (List E)} {t : T} (hz : vht ps h [t] = 0) (hs : (paB ps h t h.length == paB ps h t 0) = true) : bsC ps h t = 8 ∧ bsN ps h t = 0 := by
  have h1 : bsC ps h t = 8 := by unfold bsC; rw [if_pos hz, if_pos hs]
  exact ⟨h1, by unfold bsN; rw [h1, if_neg (by decide)]⟩
theorem bs_0 {ps : List L} {h : List (List E)} {t : T} (hz : vht ps h [t] = 0) (hs : (paB ps h t h.length == paB ps h t 0) = false) : bsC ps h t = 0 ∧ bsN ps h t = ((bisF (paB ps h t) h.length 0 h.length : Nat) : Int) := by
  have h1 : bsC ps h t = 0 := by unfold bsC; rw [if_pos hz, if_neg (by rw [hs]; decide)]
  exact ⟨h1, by unfold bsN; rw [h1, if_pos rfl]⟩

set_option maxRecDepth 100000 in
set_option maxHeartbeats 2000000 in
theorem stBis1_any (X Y Z K : Nat) (B : Bool) (a g b : Option Addr) (ca cg cb : Nat) (ps : List L) (h : List (List E)) (n : Nat) (t : T) (W : World) (hX : W.heap[X]? = some (.cells #[.slice a ps.length ca] 22 (0, 0))) (hY : W.heap[Y]? = some (.cells #[.slice g h.length cg] 23 (0, 0))) (hZ : W.heap[Z]? = some (.cells #[.slice b t.inn.length cb, .int .i64 t.out, .int .i64 t.want] 40 (0, 0))) (hK : W.heap[K]? = some (.cells #[.bool B] 4 (0, 0)))
    (hh : RowsEAt W g h) (hp : LinesAt W a ps) (hs : IntsAt W b t.inn) (hil : t.inn.length ≤ 1000) (hz : OkZ ps h) (hl : h.length ≤ 8) (hc : h.length ≤ cg) (hn : n ≤ h.length) (ht : isT t = true) :
    Calls Tryz.prog 51 #[.int .i64 n, .pointer (some ⟨Y, 0, none⟩), .pointer (some ⟨X, 0, none⟩), .pointer (some ⟨Z, 0, none⟩), .pointer (some ⟨K, 0, none⟩)] W fun e w' => e = .returned (.bool (!(paB ps h t n == B))) ∧ Below W.heap.size W w' := by
  have HC := Lib.hid (fun w h1 h2 h3 => stPas_any g a b cg ca cb h ps n t w h1 h2 h3 hil hz hl hc hn ht)
  have HH := Lib.hid hh
  have HL := Lib.hid hp
  have HS := Lib.hid hs
  clear hh hp hs hz ht
  generalize paB ps h t n = Q at *
  go_enter Tryz.func51, Tryz.ntmps51
  go_upto_region 1 with fail
  refine wp_region_held_drew (S := (fun W2 => Below W.heap.size W W2)) (by kernel_rfl) ?_ (fun hHeld => ?_)
  · exact (Below.refl _ _).drew
  have HBd := Lib.hid ((Below.refl W.heap.size W).drew)
  generalize World.drew _ = Wd at *
  refine wpAnyH_take (i := 0) (oi := ?oiq1) (v := (.slice g h.length cg)) ?hiq1 (by kernel_rfl) (by kernel_rfl) (by kernel_rfl) ?hqq1 ?hyq1 hHeld ?restq1
  case hiq1 => exact rfl
  case hqq1 => exact fun _ _ _ h => h
  case hyq1 =>
    refine Or.inl ⟨by rfl, ?_⟩
    intro w hSw
    have m0 := (hSw.cell (p := ⟨Y, 0, none⟩) (hp_lt hY)).trans (hp_cell hY (j := 0) rfl)
    go_simp
    (try with_reducible rfl)
  try simp only [Act.put, List.getElem_toArray, List.getElem_cons_succ, List.getElem_cons_zero, List.setIfInBounds_toArray, List.set_cons_zero, List.set_cons_succ]
  refine wpAnyH_take (i := 1) (oi := ?oiq2) (v := (.slice a ps.length ca)) ?hiq2 (by kernel_rfl) (by kernel_rfl) (by kernel_rfl) ?hqq2 ?hyq2 hHeld ?restq2
  case hiq2 => exact rfl
  case hqq2 => exact fun _ _ _ h => h
  case hyq2 =>
    refine Or.inl ⟨by rfl, ?_⟩
    intro w hSw
    have m0 := (hSw.cell (p := ⟨X, 0, none⟩) (hp_lt hX)).trans (hp_cell hX (j := 0) rfl)
    go_simp
    (try with_reducible rfl)
  try simp only [Act.put, List.getElem_toArray, List.getElem_cons_succ, List.getElem_cons_zero, List.setIfInBounds_toArray, List.set_cons_zero, List.set_cons_succ]
  refine wpAnyH_take (i := 2) (oi := ?oiq3) (v := (.int .i64 n)) ?hiq3 (by kernel_rfl) (by kernel_rfl) (by kernel_rfl) ?hqq3 ?hyq3 hHeld ?restq3
  case hiq3 => exact rfl
  case hqq3 => exact fun _ _ _ h => h
  case hyq3 =>
    refine Or.inl ⟨by rfl, ?_⟩
    intro w hSw
    go_simp
    (try with_reducible rfl)
  try simp only [Act.put, List.getElem_toArray, List.getElem_cons_succ, List.getElem_cons_zero, List.setIfInBounds_toArray, List.set_cons_zero, List.set_cons_succ]
  refine wpAnyH_take (i := 3) (oi := ?oiq4) (v := (.agg #[.slice b t.inn.length cb, .int .i64 t.out, .int .i64 t.want])) ?hiq4 (by kernel_rfl) (by kernel_rfl) (by kernel_rfl) ?hqq4 ?hyq4 hHeld ?restq4
  case hiq4 => exact rfl
  case hqq4 => exact fun _ _ _ h => h
  case hyq4 =>
    refine Or.inl ⟨by rfl, ?_⟩
    intro w hSw
    have m0 := (hSw.cell (p := ⟨Z, 0, none⟩) (hp_lt hZ)).trans (hp_cell hZ (j := 0) rfl)
    have m1 := (hSw.cell (p := ⟨Z, 1, none⟩) (hp_lt hZ)).trans (hp_cell hZ (j := 1) rfl)
    have m2 := (hSw.cell (p := ⟨Z, 2, none⟩) (hp_lt hZ)).trans (hp_cell hZ (j := 2) rfl)
    go_simp
    (try with_reducible rfl)
  try simp only [Act.put, List.getElem_toArray, List.getElem_cons_succ, List.getElem_cons_zero, List.setIfInBounds_toArray, List.set_cons_zero, List.set_cons_succ]
  refine wpAnyH_take (i := 5) (oi := ?oiq5) (v := (.bool B)) ?hiq5 (by kernel_rfl) (by kernel_rfl) (by kernel_rfl) ?hqq5 ?hyq5 hHeld ?restq5
  case hiq5 => exact rfl
  case hqq5 => exact fun _ _ _ h => h
  case hyq5 =>
    refine Or.inl ⟨by rfl, ?_⟩
    intro w hSw
    have m0 := (hSw.cell (p := ⟨K, 0, none⟩) (hp_lt hK)).trans (hp_cell hK (j := 0) rfl)
    go_simp
    (try with_reducible rfl)
  try simp only [Act.put, List.getElem_toArray, List.getElem_cons_succ, List.getElem_cons_zero, List.setIfInBounds_toArray, List.set_cons_zero, List.set_cons_succ]
  refine wpAnyH_ready (rs := [4]) (by kernel_rfl) (by simp) ?_
  refine AllReadyH.cons (o := ?or8_4) ?hr8_4 ?kr8_4 AllReadyH.nil
  case hr8_4 => exact rfl
  case kr8_4 =>
    intro Kz hKz
    go_simp
    refine (HC.out _ (HH.out.below HBd.out (Nat.le_refl _)) (HL.out.below HBd.out (Nat.le_refl _)) (HS.out.below HBd.out (Nat.le_refl _))).mono ?_
    rintro e w3 ⟨rfl, hB⟩
    have HB3 := Lib.hid (HBd.out.trans (hB.mono HBd.out.size))
    clear hB
    refine hKz.out _ _ HB3.out (fun hHeld => ?_)
    clear hKz Kz
    try simp only [Act.put, List.getElem_toArray, List.getElem_cons_succ, List.getElem_cons_zero, List.setIfInBounds_toArray, List.set_cons_zero, List.set_cons_succ]
    refine wpAnyH_take (i := 6) (oi := ?oiq6) (v := (.bool (!(Q == B)))) ?hiq6 (by kernel_rfl) (by kernel_rfl) (by kernel_rfl) ?hqq6 ?hyq6 hHeld ?restq6
    case hiq6 => exact rfl
    case hqq6 => exact fun _ _ _ h => h
    case hyq6 =>
      refine Or.inl ⟨by rfl, ?_⟩
      intro w hSw
      go_simp
      (try with_reducible rfl)
    try simp only [Act.put, List.getElem_toArray, List.getElem_cons_succ, List.getElem_cons_zero, List.setIfInBounds_toArray, List.set_cons_zero, List.set_cons_succ]
    refine wpAnyH_take (i := 7) (oi := ?oiq7) (v := (.bool (!(Q == B)))) ?hiq7 (by kernel_rfl) (by kernel_rfl) (by kernel_rfl) ?hqq7 ?hyq7 hHeld ?restq7
    case hiq7 => exact rfl
    case hqq7 => exact fun _ _ _ h => h
    case hyq7 =>
      refine Or.inl ⟨by rfl, ?_⟩
      intro w hSw
      go_simp
      (try with_reducible rfl)
    try simp only [Act.put, List.getElem_toArray, List.getElem_cons_succ, List.getElem_cons_zero, List.setIfInBounds_toArray, List.set_cons_zero, List.set_cons_succ]
    refine wpAnyH_done (by kernel_rfl) ?_ _
    clear hHeld
    (try refine hKb _ _ ?_)
    go_wp2_with fail
    go_ret
    exact ⟨rfl, HB3.out⟩

set_option maxRecDepth 100000 in
set_option maxHeartbeats 4000000 in
theorem stBisect_any (a g b : Option Addr) (ca cg cb : Nat) (ps : List L) (h : List (List E)) (t : T) (w : World) (hp : LinesAt w a ps) (hh : RowsEAt w g h) (hs : IntsAt w b t.inn) (hil : t.inn.length ≤ 1000) (hpl : ps.length ≤ 1000) (hhl : h.length ≤ 1000) (hm : ∀ x ∈ h, x.length ≤ 1000) (hcg : h.length ≤ cg) :
    Calls Tryz.prog 23 #[.slice a ps.length ca, .slice g h.length cg, .agg #[.slice b t.inn.length cb, .int .i64 t.out, .int .i64 t.want]] w fun e w' => e = .returned (.tuple #[.int .i64 (bsN ps h t), .int .i64 (bsC ps h t)]) ∧ Below w.heap.size w w' := by
  have f1 := heap_new w (.cells #[.slice a ps.length ca] 22)
  have s1 : (w.alloc (.cells #[.slice a ps.length ca] 22)).heap.size = w.heap.size + 1 := by simp
  have b1 := (Below.refl w.heap.size w).alloc (Nat.le_refl _) (.cells #[.slice a ps.length ca] 22)
  have f2 := heap_new (w.alloc (.cells #[.slice a ps.length ca] 22)) (.cells #[.slice g h.length cg] 23)
  have s2 : ((w.alloc (.cells #[.slice a ps.length ca] 22)).alloc (.cells #[.slice g h.length cg] 23)).heap.size = w.heap.size + 1 + 1 := by simp
  have b2 := b1.alloc (by simp) (.cells #[.slice g h.length cg] 23)
  have f3 := heap_new ((w.alloc (.cells #[.slice a ps.length ca] 22)).alloc (.cells #[.slice g h.length cg] 23)) (.cells #[.slice b t.inn.length cb, .int .i64 t.out, .int .i64 t.want] 40)
  have b3 := b2.alloc (by rw [s2]; omega) (.cells #[.slice b t.inn.length cb, .int .i64 t.out, .int .i64 t.want] 40)
  have e2 := hp_alloc (o' := (.cells #[.slice b t.inn.length cb, .int .i64 t.out, .int .i64 t.want] 40)) f2
  have e1 := hp_alloc (o' := (.cells #[.slice b t.inn.length cb, .int .i64 t.out, .int .i64 t.want] 40)) (hp_alloc (o' := (.cells #[.slice g h.length cg] 23)) f1)
  rw [s1] at e2
  rw [s2] at f3
  obtain ⟨w0, hw0⟩ : ∃ w0, w0 = ((w.alloc (.cells #[.slice a ps.length ca] 22)).alloc (.cells #[.slice g h.length cg] 23)).alloc (.cells #[.slice b t.inn.length cb, .int .i64 t.out, .int .i64 t.want] 40) := ⟨_, rfl⟩
  rw [← hw0] at b3 e1 e2 f3
  have HW0 := Lib.hid hw0
  have HX := Lib.hid e1
  have HY := Lib.hid e2
  have HZ := Lib.hid f3
  have HB := Lib.hid b3
  have x0 := hp_cell e1 (j := 0) rfl
  have y0 := hp_cell e2 (j := 0) rfl
  have z0 := hp_cell f3 (j := 0) rfl
  have z1 := hp_cell f3 (j := 1) rfl
  have z2 := hp_cell f3 (j := 2) rfl
  have HV := Lib.hid (fun u w h1 h2 h3 => stVts_any a g u ca cg 1 ps h [t] w h1 h2 h3 hpl hhl hm (by simp) (by simpa using hil))
  have HS := Lib.hid hs
  have HH := Lib.hid hh
  have HL := Lib.hid hp
  clear f1 f2 f3 s1 s2 b1 b2 b3 e1 e2 hw0
  by_cases hz : vht ps h [t] = 0
  · have hv := (vht_ok hz).1
    have h8 := (vst_ok hv).2.1
    have P0 := Lib.hid (fun w h1 h2 h3 => show Calls Tryz.prog 47 #[.slice g h.length cg, .slice a ps.length ca, .int .i64 0, .agg #[.slice b t.inn.length cb, .int .i64 t.out, .int .i64 t.want]] w fun e w' => e = .returned (.bool (paB ps h t 0)) ∧ Below w.heap.size w w' from stPas_any g a b cg ca cb h ps 0 t w h1 h2 h3 hil (okZ_of hv) h8 hcg (Nat.zero_le _) (vht_t hz))
    have PN := Lib.hid (fun X Y Z K B n (hn : n ≤ h.length) w h1 h2 h3 h4 h5 h6 h7 => stBis1_any X Y Z K B a g b ca cg cb ps h n t w h1 h2 h3 h4 h5 h6 h7 hil (okZ_of hv) h8 hcg hn (vht_t hz))
    have HC8 := Lib.hid (fun hs => bs_8 (ps := ps) (h := h) (t := t) hz hs)
    have HC0 := Lib.hid (fun hs => bs_0 (ps := ps) (h := h) (t := t) hz hs)
    rw [hz] at HV
    clear hz hp hh hm hs hv
    go_enter Tryz.func23, Tryz.ntmps23
    go_upto_region 1 with fail
    rw [← HW0.out]
    go_wp2_with fail
    refine (HV.out _ _ ?_ ?_ ?_).mono ?_
    · exact HL.out.below (HB.out.alloc HB.out.size _) (Nat.le_refl _)
    · exact HH.out.below (HB.out.alloc HB.out.size _) (Nat.le_refl _)
    · exact tests_one (by rfl) (HS.out.below HB.out (Nat.le_refl _))
    rintro e w1 ⟨rfl, hB⟩
    have hB1 : Below w0.heap.size w0 w1 := ((Below.refl w0.heap.size w0).alloc (Nat.le_refl _) _).trans (hB.mono (by simp))
    clear x0 y0 z0 z1 z2 hB
    have HX := Lib.hid (hp_below HX.out hB1 (hp_lt HX.out))
    have HY := Lib.hid (hp_below HY.out hB1 (hp_lt HY.out))
    have HZ := Lib.hid (hp_below HZ.out hB1 (hp_lt HZ.out))
    have HB := Lib.hid (HB.out.trans (hB1.mono HB.out.size))
    clear hB1
    have x0 := hp_cell HX.out (j := 0) rfl
    have y0 := hp_cell HY.out (j := 0) rfl
    have z0 := hp_cell HZ.out (j := 0) rfl
    have z1 := hp_cell HZ.out (j := 1) rfl
    have z2 := hp_cell HZ.out (j := 2) rfl
    go_wp2_with fail
    refine (P0.out _ (HH.out.below HB.out (Nat.le_refl _)) (HL.out.below HB.out (Nat.le_refl _)) (HS.out.below HB.out (Nat.le_refl _))).mono ?_
    rintro e w2 ⟨rfl, hB1⟩
    clear x0 y0 z0 z1 z2
    have HX := Lib.hid (hp_below HX.out hB1 (hp_lt HX.out))
    have HY := Lib.hid (hp_below HY.out hB1 (hp_lt HY.out))
    have HZ := Lib.hid (hp_below HZ.out hB1 (hp_lt HZ.out))
    have HB := Lib.hid (HB.out.trans (hB1.mono HB.out.size))
    clear hB1
    go_upto_region 6 with fail
    have hal := (Below.refl w2.heap.size w2).alloc (Nat.le_refl _) (.cells #[.bool (paB ps h t 0)] 4)
    have HX := Lib.hid (hp_below HX.out hal (hp_lt HX.out))
    have HY := Lib.hid (hp_below HY.out hal (hp_lt HY.out))
    have HZ := Lib.hid (hp_below HZ.out hal (hp_lt HZ.out))
    have HK := Lib.hid (heap_new w2 (.cells #[.bool (paB ps h t 0)] 4))
    have HB := Lib.hid (HB.out.trans (hal.mono HB.out.size))
    obtain ⟨K, hK⟩ : ∃ K, K = w2.heap.size := ⟨_, rfl⟩
    rw [← hK] at HK ⊢
    clear hal hK
    generalize w2.alloc _ = w3 at *
    have y0 := hp_cell HY.out (j := 0) rfl
    go_quiet (fail)
    generalize hwd : World.drewN _ _ = wd
    have HR := Lib.hid (show Below w3.heap.size w3 wd from by rw [← hwd]; exact below_drewN8 w3 _)
    have PN := Lib.hid (fun n hn W (hR : Below w3.heap.size w3 W) => PN.out w.heap.size (w.heap.size + 1) (w.heap.size + 1 + 1) K (paB ps h t 0) n hn W (hp_below HX.out hR (hp_lt HX.out)) (hp_below HY.out hR (hp_lt HY.out)) (hp_below HZ.out hR (hp_lt HZ.out)) (hp_below HK.out hR (hp_lt HK.out)) (HH.out.below (HB.out.trans (hR.mono HB.out.size)) (Nat.le_refl _)) (HL.out.below (HB.out.trans (hR.mono HB.out.size)) (Nat.le_refl _)) (HS.out.below (HB.out.trans (hR.mono HB.out.size)) (Nat.le_refl _)))
    clear y0 hwd HV P0
    have P1 := Lib.hid (PN.out h.length (Nat.le_refl _) wd HR.out)
    cases hs : (paB ps h t h.length == paB ps h t 0)
    · obtain ⟨q1, q2⟩ := HC0.out hs
      have Q1 := Lib.hid q1
      have Q2 := Lib.hid q2
      rw [hs] at P1
      have hn0 : 0 < h.length := by
        rcases Nat.eq_zero_or_pos h.length with e | e
        · rw [e] at hs; simp at hs
        · exact e
      clear q1 q2 hs HC8 HC0
      obtain ⟨P, hP⟩ : ∃ P, P = paB ps h t := ⟨_, rfl⟩
      rw [← hP] at PN Q2
      obtain ⟨R, hR⟩ : ∃ R, R = bisF P h.length 0 h.length := ⟨_, rfl⟩
      rw [← hR] at Q2
      have HRR := Lib.hid hR.symm
      clear hP hR
      go_wp2_with fail
      refine P1.out.mono ?_
      rintro e w4 ⟨rfl, hB⟩
      have HR := Lib.hid (HR.out.trans (hB.mono HR.out.size))
      clear hB P1
      go_wp2_with fail
      go_loopw [11, 12] (fun s11 s12 wr => ∃ (f u k : Nat), f < u ∧ u ≤ h.length ∧ u - f ≤ k ∧ s11 = .int .i64 f ∧ s12 = .int .i64 u ∧ bisF P k f u = R ∧ Below w3.heap.size w3 wr) (fun s11 s12 _ => (intOf s12).toNat - (intOf s11).toNat)
      case atStart => exact ⟨0, h.length, h.length, hn0, Nat.le_refl _, by omega, rfl, rfl, HRR.out, HR.out⟩
      case round =>
        clear HR HRR
        obtain ⟨f, u, k, hfu, huh, huk, rfl, rfl, hbr, hB⟩ := hrel
        have HBR := Lib.hid hbr
        have HR := Lib.hid hB
        clear hbr hB
        by_cases hlt : 1 < u - f
        · have hd : decide ((1 : Int) < (u : Int) - (f : Int)) = true := by rw [decide_eq_true_eq]; omega
          obtain ⟨m, hm⟩ : ∃ m, m = (f + u) / 2 := ⟨_, rfl⟩
          have hfm : f < m := by omega
          have hmu : m < u := by omega
          have hq : ((f : Int) + (u : Int)).tdiv 2 = (m : Int) := by rw [Int.tdiv_eq_ediv_of_nonneg (by omega)]; omega
          have HM := Lib.hid hm
          have hmh : m ≤ h.length := by omega
          have P1 := Lib.hid (PN.out m hmh _ HR.out)
          cases hs : (P m == P 0)
          · obtain ⟨k', hk1, hk2⟩ := bisF_other hlt huk (by rw [← HM.out]; exact hs)
            rw [← HM.out] at hk1 hk2
            have HK1 := Lib.hid (hk1.symm.trans HBR.out)
            rw [hs] at P1
            clear hk1 hs hm
            go_wp2_with fail
            refine P1.out.mono ?_
            rintro e w5 ⟨rfl, hB⟩
            have HR := Lib.hid (HR.out.trans (hB.mono HR.out.size))
            clear hB P1
            go_wp2_with fail
            go_roundw
            case rel => exact ⟨f, m, k', hfm, hmh, hk2, by go_num, by go_num, HK1.out, HR.out⟩
            case measure => simp [intOf]; omega
          · obtain ⟨k', hk1, hk2⟩ := bisF_same hlt huk (by rw [← HM.out]; exact hs)
            rw [← HM.out] at hk1 hk2
            have HK1 := Lib.hid (hk1.symm.trans HBR.out)
            rw [hs] at P1
            clear hk1 hs hm
            go_wp2_with fail
            refine P1.out.mono ?_
            rintro e w5 ⟨rfl, hB⟩
            have HR := Lib.hid (HR.out.trans (hB.mono HR.out.size))
            clear hB P1
            go_wp2_with fail
            go_roundw
            case rel => exact ⟨m, u, k', hmu, huh, hk2, by go_num, by go_num, HK1.out, HR.out⟩
            case measure => simp [intOf]; omega
        · have hd : decide ((1 : Int) < (u : Int) - (f : Int)) = false := by rw [decide_eq_false_iff_not]; omega
          have HF := Lib.hid ((bisF_end (P := P) (k := k) (show u - f ≤ 1 by omega)).symm.trans HBR.out)
          have HB9 := Lib.hid (HB.out.trans (HR.out.mono HB.out.size))
          go_wp2_with fail
          go_ret2
          rw [Q1.out, Q2.out, ← HF.out]
          exact ⟨rfl, HB9.out⟩
    · obtain ⟨q1, q2⟩ := HC8.out hs
      have Q1 := Lib.hid q1
      have Q2 := Lib.hid q2
      rw [hs] at P1
      clear q1 q2 hs HC8 HC0
      go_wp2_with fail
      refine P1.out.mono ?_
      rintro e w4 ⟨rfl, hB⟩
      have HB9 := Lib.hid (HB.out.trans ((HR.out.trans (hB.mono HR.out.size)).mono HB.out.size))
      clear hB
      go_wp2_with fail
      go_ret2
      rw [Q1.out, Q2.out]
      exact ⟨rfl, HB9.out⟩
  · obtain ⟨e1, e2⟩ := bs_v hz
    have hz1 : (vht ps h [t] != 0) = true := by simpa using hz
    rw [e1, e2]
    clear hz hp hh hm hs e1 e2
    generalize vht ps h [t] = c at HV hz1 ⊢
    go_enter Tryz.func23, Tryz.ntmps23
    go_upto_region 1 with fail
    rw [← HW0.out]
    go_wp2_with fail
    refine (HV.out _ _ ?_ ?_ ?_).mono ?_
    · exact HL.out.below (HB.out.alloc HB.out.size _) (Nat.le_refl _)
    · exact HH.out.below (HB.out.alloc HB.out.size _) (Nat.le_refl _)
    · exact tests_one (by rfl) (HS.out.below HB.out (Nat.le_refl _))
    rintro e w1 ⟨rfl, hB⟩
    have HB := Lib.hid ((HB.out.alloc HB.out.size (.cells #[.slice b t.inn.length cb, .int .i64 t.out, .int .i64 t.want] 40)).trans (hB.mono (by have := HB.out.size; simp; omega)))
    clear hB
    go_wp2_with fail
    go_ret2
    exact ⟨rfl, HB.out⟩

end Go.Proofs.YtikblaebfpdngaaGreat

/- Bisect of the document (tinkerref07): contract. -/
set_option linter.unusedVariables false
set_option linter.unusedSimpArgs false
namespace Go.Proofs.YtikblaebfpdngaaGreat
open Go.RowKit Tinker

set_option maxRecDepth 100000 in
set_option maxHeartbeats 4000000 in
theorem rBisect_any (a g b : Option Addr) (ca cg cb : Nat) (ps : List L) (h : List (List E)) (t : T) (w : World) (hp : LinesAt w a ps) (hc : a = none → ca = 0) (hh : RowsEAt w g h) (hs : IntsAt w b t.inn) (hpl : ps.length ≤ 1000) (hhl : h.length ≤ 1000) (hm : ∀ x ∈ h, x.length ≤ 1000) :
    Calls Tryz.prog 24 #[.slice a ps.length ca, .slice g h.length cg, .agg #[.slice b t.inn.length cb, .int .i64 t.out, .int .i64 t.want]] w fun e w' => e = .returned (.tuple #[.int .i64 (bsN ps h t), .int .i64 (bsC ps h t)]) ∧ Below w.heap.size w w' := by
  have HI := Lib.hid (boxT_new (a := b) (n := t.inn.length) (ca := cb) (out := t.out) (want := t.want) w)
  have x0 := HI.out.c0
  have x1 := HI.out.c1
  have x2 := HI.out.c2
  have HV := Lib.hid (fun u w h1 h2 h3 => rTested7_any a g u ca cg 1 ps h [t] w h1 h2 h3 hpl hhl hm)
  have HS := Lib.hid (hs.below HI.out.below (Nat.le_refl _))
  have HS0 := Lib.hid hs
  have HH := Lib.hid hh
  have HL := Lib.hid hp
  by_cases hz : vht ps h [t] = 0
  · have hv := (vht_ok hz).1
    have h8 := (vst_ok hv).2.1
    have HP := Lib.hid (fun w h1 h2 h3 => rPas7_any a g b ca cg cb ps h t w h1 hc h2 h3 hv (vht_t hz))
    have HC8 := Lib.hid (fun hs => bs_8 (ps := ps) (h := h) (t := t) hz hs)
    have HC0 := Lib.hid (fun hs => bs_0 (ps := ps) (h := h) (t := t) hz hs)
    rw [hz] at HV
    clear hz hp hh hm hs hv hc
    go_enter Tryz.func24, Tryz.ntmps24
    go_wp2_with fail
    refine (HV.out _ _ ?_ ?_ ?_).mono ?_
    · exact HL.out.below (HI.out.below.alloc HI.out.below.size _) (Nat.le_refl _)
    · exact HH.out.below (HI.out.below.alloc HI.out.below.size _) (Nat.le_refl _)
    · exact tests_one (by simp) HS.out
    rintro e w1 ⟨rfl, hB⟩
    have HI1 := Lib.hid ((HI.out.low ((Below.refl _ _).alloc (Nat.le_refl _) _)).low hB)
    clear hB x0 x1 x2 HI HS
    have x0 := HI1.out.c0
    have x1 := HI1.out.c1
    have x2 := HI1.out.c2
    go_wp2_with fail
    refine (HP.out _ (HL.out.below HI1.out.below (Nat.le_refl _)) (HH.out.below HI1.out.below (Nat.le_refl _)) (HS0.out.below HI1.out.below (Nat.le_refl _))).mono ?_
    rintro e w2 ⟨q, c, rfl, hq, hc, hB⟩
    have HC := Lib.hid hc
    have HB2 := Lib.hid (HI1.out.below.trans (hB.mono HI1.out.below.size))
    clear hc hB x0 x1 x2
    have c0 := HC.out 0 (by omega)
    have cn := HC.out h.length (by omega)
    have k1 : (h.length : Int) < (h.length : Int) + 1 := by omega
    have k2 : (0 : Int) < (h.length : Int) + 1 := by omega
    have k3 : (0 : Int) ≤ (h.length : Int) := by omega
    cases hs : (paB ps h t h.length == paB ps h t 0)
    · obtain ⟨q1, q2⟩ := HC0.out hs
      have Q1 := Lib.hid q1
      have Q2 := Lib.hid q2
      have hs2 : (paB ps h t 0 == paB ps h t h.length) = false := by rw [beq_eq_false_iff_ne] at hs ⊢; exact fun e => hs e.symm
      have hn0 : 0 < h.length := by
        rcases Nat.eq_zero_or_pos h.length with e | e
        · rw [e] at hs; simp at hs
        · exact e
      clear q1 q2 HC8 HC0
      obtain ⟨P, hP⟩ : ∃ P, P = paB ps h t := ⟨_, rfl⟩
      rw [← hP] at hs hs2 Q2 HC c0 cn
      obtain ⟨R, hR⟩ : ∃ R, R = bisF P h.length 0 h.length := ⟨_, rfl⟩
      rw [← hR] at Q2
      have HRR := Lib.hid hR.symm
      clear hP hR
      go_wp2_with fail
      go_quiet (fail)
      generalize hwd : World.drewN _ _ = wd
      have HR := Lib.hid (show Below w2.heap.size w2 wd from by rw [← hwd]; exact below_drewN8 w2 _)
      clear c0 cn hwd hs hs2
      go_wp2_with fail
      go_loopw [10, 11] (fun s10 s11 wr => ∃ (f u k : Nat), f < u ∧ u ≤ h.length ∧ u - f ≤ k ∧ s10 = .int .i64 f ∧ s11 = .int .i64 u ∧ bisF P k f u = R ∧ Below w2.heap.size w2 wr) (fun s10 s11 _ => (intOf s11).toNat - (intOf s10).toNat)
      case atStart => exact ⟨0, h.length, h.length, hn0, Nat.le_refl _, by omega, rfl, rfl, HRR.out, HR.out⟩
      case round =>
        clear HR HRR
        obtain ⟨f, u, k, hfu, huh, huk, rfl, rfl, hbr, hB⟩ := hrel
        have HBR := Lib.hid hbr
        have HR := Lib.hid hB
        clear hbr hB
        by_cases hlt : 1 < u - f
        · have hd : decide ((1 : Int) < (u : Int) - (f : Int)) = true := by rw [decide_eq_true_eq]; omega
          obtain ⟨m, hm⟩ : ∃ m, m = (f + u) / 2 := ⟨_, rfl⟩
          have hfm : f < m := by omega
          have hmu : m < u := by omega
          have hq2 : ((f : Int) + (u : Int)).tdiv 2 = (m : Int) := by rw [Int.tdiv_eq_ediv_of_nonneg (by omega)]; omega
          have HM := Lib.hid hm
          have hmh : m ≤ h.length := by omega
          have c0 := (HR.out.cell (p := ⟨q, 0, none⟩) hq).trans (HC.out 0 (by omega))
          have cm := (HR.out.cell (p := ⟨q, m, none⟩) hq).trans (HC.out m (by omega))
          have k4 : (m : Int) < (h.length : Int) + 1 := by omega
          have k5 : (0 : Int) ≤ (m : Int) := by omega
          cases hs : (P m == P 0)
          · obtain ⟨k', hk1, hk2⟩ := bisF_other hlt huk (by rw [← HM.out]; exact hs)
            rw [← HM.out] at hk1 hk2
            have HK1 := Lib.hid (hk1.symm.trans HBR.out)
            clear hk1 hm
            go_wp2_with fail
            go_quiet (fail)
            go_wp2_with fail
            go_roundw
            case rel => exact ⟨f, m, k', hfm, hmh, hk2, by go_num, by go_num, HK1.out, below_drewN5 HR.out _⟩
            case measure => simp [intOf]; omega
          · obtain ⟨k', hk1, hk2⟩ := bisF_same hlt huk (by rw [← HM.out]; exact hs)
            rw [← HM.out] at hk1 hk2
            have HK1 := Lib.hid (hk1.symm.trans HBR.out)
            clear hk1 hm
            go_wp2_with fail
            go_quiet (fail)
            go_wp2_with fail
            go_roundw
            case rel => exact ⟨m, u, k', hmu, huh, hk2, by go_num, by go_num, HK1.out, below_drewN5 HR.out _⟩
            case measure => simp [intOf]; omega
        · have hd : decide ((1 : Int) < (u : Int) - (f : Int)) = false := by rw [decide_eq_false_iff_not]; omega
          have HF := Lib.hid ((bisF_end (P := P) (k := k) (show u - f ≤ 1 by omega)).symm.trans HBR.out)
          have HB9 := Lib.hid (HB2.out.trans (HR.out.mono HB2.out.size))
          go_wp2_with fail
          go_ret2
          rw [Q1.out, Q2.out, ← HF.out]
          exact ⟨rfl, HB9.out⟩
    · obtain ⟨q1, q2⟩ := HC8.out hs
      have Q1 := Lib.hid q1
      have Q2 := Lib.hid q2
      have hs2 : (paB ps h t 0 == paB ps h t h.length) = true := by rw [beq_iff_eq] at hs ⊢; exact hs.symm
      clear q1 q2 HC8 HC0
      go_wp2_with fail
      go_quiet (fail)
      generalize hwd : World.drewN _ _ = wd
      have HB9 := Lib.hid (show Below w.heap.size w wd from by rw [← hwd]; exact HB2.out.trans ((below_drewN8 w2 _).mono HB2.out.size))
      clear hwd
      go_wp2_with fail
      go_ret2
      rw [Q1.out, Q2.out]
      exact ⟨rfl, HB9.out⟩
  · obtain ⟨e1, e2⟩ := bs_v hz
    have hz1 : (vht ps h [t] != 0) = true := by simpa using hz
    rw [e1, e2]
    clear hz hp hh hm hs e1 e2
    generalize vht ps h [t] = c at HV hz1 ⊢
    go_enter Tryz.func24, Tryz.ntmps24
    go_wp2_with fail
    refine (HV.out _ _ ?_ ?_ ?_).mono ?_
    · exact HL.out.below (HI.out.below.alloc HI.out.below.size _) (Nat.le_refl _)
    · exact HH.out.below (HI.out.below.alloc HI.out.below.size _) (Nat.le_refl _)
    · exact tests_one (by simp) HS.out
    rintro e w1 ⟨rfl, hB⟩
    have HB := Lib.hid ((HI.out.low ((Below.refl _ _).alloc (Nat.le_refl _) _)).low hB).below
    clear hB
    go_wp2_with fail
    go_ret2
    exact ⟨rfl, HB.out⟩

end Go.Proofs.YtikblaebfpdngaaGreat

/- StoryBisects: the walk. -/
set_option linter.unusedVariables false
set_option linter.unusedSimpArgs false
namespace Go.Proofs.YtikblaebfpdngaaGreat
open Go.RowKit Tinker

set_option maxRecDepth 100000 in
set_option maxHeartbeats 8000000 in
theorem storyBisects_walk (a : Option Addr) (ca : Nat) (ps : List L) (g : Option Addr) (cg : Nat) (h : List (List E)) (b : Option Addr) (cb : Nat) (t : T) (w : World) (hp : LinesAt w a ps) (hc : a = none → ca = 0) (hh : RowsEAt w g h) (hc1 : g = none → cg = 0) (hcg : h.length ≤ cg) (hml : h.length ≤ maxLen) (hs : IntsAt w b t.inn) (hc2 : b = none → cb = 0) :
    Calls Tryz.prog 6 #[.slice a ps.length ca, .slice g h.length cg, .agg #[.slice b t.inn.length cb, .int .i64 t.out, .int .i64 t.want]] w fun e w' => e = .returned (.bool true) ∧ Below w.heap.size w w' := by
  have HK := Lib.hid (fun w => sane7_true w)
  have HL := Lib.hid (fun w hh => long7_any a g ps.length ca cg h w hh hml)
  have HP := Lib.hid hp
  have HH := Lib.hid hh
  cases hl : lng7 ps.length h
  · obtain ⟨hpl0, hhl0, hm0⟩ := lng7_no hl
    have hpl : ps.length ≤ 1000 := by omega
    have hhl : h.length ≤ 1000 := by omega
    have hm : ∀ x ∈ h, x.length ≤ 1000 := fun x hx => by have := hm0 x hx; omega
    rw [hl] at HL
    have HI := Lib.hid (boxT_new (a := b) (n := t.inn.length) (ca := cb) (out := t.out) (want := t.want) w)
    have x0 := HI.out.c0
    have x1 := HI.out.c1
    have x2 := HI.out.c2
    have HS := Lib.hid hs
    have C1 := Lib.hid (fun (hil : t.inn.length ≤ 1000) w h1 h2 h3 => stBisect_any a g b ca cg cb ps h t w h1 h2 h3 hil hpl hhl hm hcg)
    have C2 := Lib.hid (fun w h1 h2 h3 => rBisect_any a g b ca cg cb ps h t w h1 hc h2 h3 hpl hhl hm)
    have C3 := Lib.hid (fun n w h1 h2 => stAt_any a g ca cg ps h n w h1 h2 hpl hhl hm hcg)
    clear hs hc
    clear hp hh hc1 hml hl hm0
    by_cases hil : 50 < t.inn.length
    · have hz50 : (50 : Int) < (t.inn.length : Int) := by omega
      clear hm hcg
      go_enter Tryz.func6, Tryz.ntmps6
      go_wp2_with fail
      refine (HL.out _ (HH.out.below HI.out.below (Nat.le_refl _))).mono ?_
      rintro e w0 ⟨rfl, rfl⟩
      go_wp2_with fail
      refine (HK.out _).mono ?_
      rintro e w9 ⟨rfl, hB⟩
      go_wp2_with fail
      go_ret
      exact ⟨rfl, HI.out.below.trans (hB.mono HI.out.below.size)⟩
    · have hz50 : ¬ (50 : Int) < (t.inn.length : Int) := by omega
      have C1 := Lib.hid (C1.out (by omega))
      by_cases hz : bsC ps h t = 0
      · have hvh : vht ps h [t] = 0 := by
          refine Decidable.byContradiction fun h9 => ?_
          rw [(bs_v h9).1] at hz
          exact h9 hz
        have hch : (paB ps h t h.length == paB ps h t 0) = false := by
          cases h9 : (paB ps h t h.length == paB ps h t 0) with
          | false => rfl
          | true => rw [(bs_8 hvh h9).1] at hz; cases hz
        have hv := (vht_ok hvh).1
        have h8 := (vst_ok hv).2.1
        have hn0 : 0 < h.length := by
          rcases Nat.eq_zero_or_pos h.length with e | e
          · rw [e] at hch; simp at hch
          · exact e
        obtain ⟨r1, _, r3, r4⟩ := bis_ok (p := paB ps h t) h.length 0 h.length hn0 (by omega) rfl (by intro e; rw [e] at hch; simp at hch)
        obtain ⟨q1, q2⟩ := bs_0 hvh hch
        obtain ⟨R, hR⟩ : ∃ R, R = bisF (paB ps h t) h.length 0 h.length := ⟨_, rfl⟩
        rw [← hR] at r1 r3 r4 q2
        have hat : ∀ m : Nat, m ≤ h.length → atC ps h (m : Int) = 0 ∧ atR ps h (m : Int) = plyF ps (h.take m) := fun m hm9 => by
          have h1 : atC ps h (m : Int) = 0 := by unfold atC; rw [if_pos hv, btw_true.2 (by omega)]; rfl
          exact ⟨h1, by unfold atR; rw [if_pos h1, Int.toNat_natCast]⟩
        have D1 := Lib.hid (fun w h1 h2 => by
          have h9 := C3.out (R : Int) w h1 h2
          rw [(hat R (by omega)).1, (hat R (by omega)).2] at h9
          exact h9)
        have D2 := Lib.hid (fun w h1 h2 => by
          have h9 := C3.out ((R + 1 : Nat) : Int) w h1 h2
          rw [(hat (R + 1) (by omega)).1, (hat (R + 1) (by omega)).2] at h9
          exact h9)
        have E1 := Lib.hid (fun a' c' w h1 h2 => by
          have h9 := passes_C a' b c' cb (plyF ps (h.take R)) t w h1 h2 (by omega)
          obtain ⟨p1, p2⟩ := passV_ok (t := t) (plyF_vp ((okZ_of hv).take R)) (vht_t hvh)
          rw [p1, p2] at h9
          exact h9)
        have E2 := Lib.hid (fun a' c' w h1 h2 => by
          have h9 := passes_C a' b c' cb (plyF ps (h.take (R + 1))) t w h1 h2 (by omega)
          obtain ⟨p1, p2⟩ := passV_ok (t := t) (plyF_vp ((okZ_of hv).take (R + 1))) (vht_t hvh)
          rw [p1, p2] at h9
          exact h9)
        have hdf : (pas (plyF ps (h.take R)) t == pas (plyF ps (h.take (R + 1))) t) = false := by
          rw [beq_eq_false_iff_ne]
          intro e
          exact r4 (e.symm.trans r3)
        rw [q1, q2] at C1 C2
        have hcast : ((R : Nat) : Int) + 1 = ((R + 1 : Nat) : Int) := by omega
        rw [← hcast] at D2
        generalize pas (plyF ps (h.take R)) t = X at *
        generalize pas (plyF ps (h.take (R + 1))) t = Y at *
        generalize plyF ps (h.take R) = A1 at *
        generalize plyF ps (h.take (R + 1)) = A2 at *
        clear hz hvh hch hv hn0 r3 r4 q1 q2 hat C3 hm hcg hR hcast
        go_enter Tryz.func6, Tryz.ntmps6
        go_wp2_with fail
        refine (HL.out _ (HH.out.below HI.out.below (Nat.le_refl _))).mono ?_
        rintro e w0 ⟨rfl, rfl⟩
        go_wp2_with fail
        refine (C1.out _ (HP.out.below HI.out.below (Nat.le_refl _)) (HH.out.below HI.out.below (Nat.le_refl _)) (HS.out.below HI.out.below (Nat.le_refl _))).mono ?_
        rintro e w1 ⟨rfl, hB⟩
        have HI := Lib.hid (HI.out.low hB)
        clear x0 x1 x2
        have x0 := HI.out.c0
        have x1 := HI.out.c1
        have x2 := HI.out.c2
        clear hB
        go_wp2_with fail
        refine (C2.out _ (HP.out.below HI.out.below (Nat.le_refl _)) (HH.out.below HI.out.below (Nat.le_refl _)) (HS.out.below HI.out.below (Nat.le_refl _))).mono ?_
        rintro e w2 ⟨rfl, hB⟩
        have HI := Lib.hid (HI.out.low hB)
        clear x0 x1 x2
        have x0 := HI.out.c0
        have x1 := HI.out.c1
        have x2 := HI.out.c2
        clear hB
        go_wp2_with fail
        refine (D1.out _ (HP.out.below HI.out.below (Nat.le_refl _)) (HH.out.below HI.out.below (Nat.le_refl _))).mono ?_
        rintro e w3 ⟨a1, c1, rfl, ho, hB⟩
        have HI := Lib.hid (HI.out.low hB)
        clear x0 x1 x2
        have x0 := HI.out.c0
        have x1 := HI.out.c1
        have x2 := HI.out.c2
        have L1 := Lib.hid ((lines_of_own ho).1)
        clear hB ho
        go_wp2_with fail
        refine (D2.out _ (HP.out.below HI.out.below (Nat.le_refl _)) (HH.out.below HI.out.below (Nat.le_refl _))).mono ?_
        rintro e w4 ⟨a2, c2, rfl, ho, hB⟩
        have L1 := Lib.hid (L1.out.below hB (Nat.le_refl _))
        have HI := Lib.hid (HI.out.low hB)
        clear x0 x1 x2
        have x0 := HI.out.c0
        have x1 := HI.out.c1
        have x2 := HI.out.c2
        have L2 := Lib.hid ((lines_of_own ho).1)
        clear hB ho
        go_wp2_with fail
        refine (E1.out _ _ _ L1.out (HS.out.below HI.out.below (Nat.le_refl _))).mono ?_
        rintro e w5 ⟨rfl, hB⟩
        have L1 := Lib.hid (L1.out.below hB (Nat.le_refl _))
        have L2 := Lib.hid (L2.out.below hB (Nat.le_refl _))
        have HI := Lib.hid (HI.out.low hB)
        clear x0 x1 x2
        have x0 := HI.out.c0
        have x1 := HI.out.c1
        have x2 := HI.out.c2
        clear hB
        go_wp2_with fail
        refine (E2.out _ _ _ L2.out (HS.out.below HI.out.below (Nat.le_refl _))).mono ?_
        rintro e w6 ⟨rfl, hB⟩
        have L1 := Lib.hid (L1.out.below hB (Nat.le_refl _))
        have L2 := Lib.hid (L2.out.below hB (Nat.le_refl _))
        have HI := Lib.hid (HI.out.low hB)
        clear x0 x1 x2
        have x0 := HI.out.c0
        have x1 := HI.out.c1
        have x2 := HI.out.c2
        clear hB
        go_wp2_with fail
        refine (HK.out _).mono ?_
        rintro e w9 ⟨rfl, hB⟩
        go_wp2_with fail
        go_ret
        exact ⟨rfl, HI.out.below.trans (hB.mono HI.out.below.size)⟩
      · have hz1 : (bsC ps h t != 0) = true := by simpa using hz
        have e1 : (bsC ps h t != bsC ps h t) = false := by simp
        have e2 : (bsN ps h t != bsN ps h t) = false := by simp
        generalize bsC ps h t = c at *
        generalize bsN ps h t = d at *
        clear hz hm hcg C3
        go_enter Tryz.func6, Tryz.ntmps6
        go_wp2_with fail
        refine (HL.out _ (HH.out.below HI.out.below (Nat.le_refl _))).mono ?_
        rintro e w0 ⟨rfl, rfl⟩
        go_wp2_with fail
        refine (C1.out _ (HP.out.below HI.out.below (Nat.le_refl _)) (HH.out.below HI.out.below (Nat.le_refl _)) (HS.out.below HI.out.below (Nat.le_refl _))).mono ?_
        rintro e w1 ⟨rfl, hB⟩
        have HI := Lib.hid (HI.out.low hB)
        clear x0 x1 x2
        have x0 := HI.out.c0
        have x1 := HI.out.c1
        have x2 := HI.out.c2
        clear hB
        go_wp2_with fail
        refine (C2.out _ (HP.out.below HI.out.below (Nat.le_refl _)) (HH.out.below HI.out.below (Nat.le_refl _)) (HS.out.below HI.out.below (Nat.le_refl _))).mono ?_
        rintro e w2 ⟨rfl, hB⟩
        have HI := Lib.hid (HI.out.low hB)
        clear x0 x1 x2
        have x0 := HI.out.c0
        have x1 := HI.out.c1
        have x2 := HI.out.c2
        clear hB
        go_wp2_with fail
        refine (HK.out _).mono ?_
        rintro e w9 ⟨rfl, hB⟩
        go_wp2_with fail
        go_ret
        exact ⟨rfl, HI.out.below.trans (hB.mono HI.out.below.size)⟩
  · rw [hl] at HL
    clear hp hh hc hc1 hcg hml hl hs hc2
    go_enter Tryz.func6, Tryz.ntmps6
    go_wp2_with fail
    refine (HL.out _ (HH.out.below ((Below.refl _ _).alloc (Nat.le_refl _) _) (Nat.le_refl _))).mono ?_
    rintro e w1 ⟨rfl, rfl⟩
    go_wp2_with fail
    refine (HK.out _).mono ?_
    rintro e w2 ⟨rfl, hB⟩
    go_wp2_with fail
    go_ret
    exact ⟨rfl, ((Below.refl _ _).alloc (Nat.le_refl _) _).trans (hB.mono (by simp))⟩

end Go.Proofs.YtikblaebfpdngaaGreat
