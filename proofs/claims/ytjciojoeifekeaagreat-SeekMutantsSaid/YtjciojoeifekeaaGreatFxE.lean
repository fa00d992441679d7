/- Several texts in one. -/
import Derived.Test.YtjciojoeifekeaaGreatCnF
import Derived.Test.YtjciojoeifekeaaGreatTells
import Derived.Test.YtjciojoeifekeaaGreatFxW
import Derived.Test.YtjciojoeifekeaaGreatCnL
/- Single repairs: plain mathematics; validateTests, validateNeed of seek: contracts. -/
set_option linter.unusedVariables false
set_option linter.unusedSimpArgs false
namespace Go.Proofs.YtjciojoeifekeaaGreat
open Go.RowKit Go.Shelf Tinker

theorem edit_at (w : World) (t : TypeId) (e : E) : EditsAt (w.alloc (.cells #[.int .i64 e.at_, .int .i64 e.ln.op, .int .i64 e.ln.to, .int .i64 e.ln.a, .int .i64 e.ln.b] t)) (some ⟨w.heap.size, 0, none⟩) [e] :=
  .inr ⟨w.heap.size, 0, rfl, by simp, fun j l hj => by
    match j, hj with
    | 0, hj => simp at hj; subst hj; exact ⟨hp_cell (hp_new rfl) rfl, hp_cell (hp_new rfl) rfl, hp_cell (hp_new rfl) rfl, hp_cell (hp_new rfl) rfl, hp_cell (hp_new rfl) rfl⟩
    | j + 1, hj => simp at hj⟩

theorem vpx_one {ps : List L} {i : Nat} {m : L} (hv : vp ps = 0) (hi : i < ps.length) (hm : isLn m = true) : vpx ps [⟨(i : Int), m⟩] 0 = 0 := by
  have h8 := (vp_ok hv).1
  have hx : vx [⟨(i : Int), m⟩] = 0 := vx_0 (by simp) (by rfl) (fun e he => by
    rw [List.mem_singleton] at he
    subst he
    rw [Bool.and_eq_true]
    exact ⟨btw_true.2 ⟨by show (0 : Int) ≤ (i : Int); omega, by show (i : Int) ≤ 7; omega⟩, hm⟩)
  unfold vpx
  rw [hv, hx]
  show (if allBtw [(i : Int)] 0 ((ps.length : Int) - 1) then (0 : Int) else 4) = 0
  rw [if_pos]
  unfold allBtw
  rw [List.all_eq_true]
  intro x hx
  rw [List.mem_singleton] at hx
  subst hx
  exact btw_true.2 ⟨by omega, by omega⟩
theorem gdR_one {ps : List L} {ts : List T} {i : Nat} {m : L} (hv : vp ps = 0) (ht : vts ts = 0) (hi : i < ps.length) (hm : isLn m = true) : gdR ps [⟨(i : Int), m⟩] ts = gdB ps ts [⟨(i : Int), m⟩] := by
  unfold gdR
  rw [ht, if_pos (vpx_one hv hi hm)]
theorem cnd_ln {ps : List L} {i : Nat} {n : Int} {m : L} (h : m ∈ cndL ps i n) : isLn m = true := by
  unfold cndL at h
  exact (othL_mem.1 h).2.1
/-- The lines of single repairs at a place. -/
def fxL (ps : List L) (ts : List T) (i : Nat) (n : Int) : List L := (cndL ps i n).filter fun m => gdB ps ts [⟨(i : Int), m⟩]
theorem fx_filter {ps : List L} {ts : List T} {i : Nat} {n : Int} (hv : vp ps = 0) (ht : vts ts = 0) (hi : i < ps.length) : (cndL ps i n).filter (fun m => !(!gdR ps [⟨(i : Int), m⟩] ts)) = fxL ps ts i n := by
  unfold fxL
  refine List.filter_congr fun m hm => ?_
  rw [gdR_one hv ht hi (cnd_ln hm), Bool.not_not]
theorem fx_mem {ps : List L} {ts : List T} {i : Nat} {n : Int} {m : L} (h : m ∈ fxL ps ts i n) : isLn m = true ∧ gdB ps ts [⟨(i : Int), m⟩] = true := by
  unfold fxL at h
  rw [List.mem_filter] at h
  exact ⟨cnd_ln h.1, h.2⟩
theorem fx_len9 (ps : List L) (ts : List T) (i : Nat) (n : Int) : (fxL ps ts i n).length ≤ 1000 := Nat.le_trans (List.length_filter_le _ _) (cnd_len9 ps i n)
/-- The code of a need: whether a test fails. -/
def ndC (ps : List L) (ts : List T) : Int := if (pL false ps ts).length = 0 then 8 else 0
theorem nd_all {ps : List L} {ts : List T} (hv : vp ps = 0) (ht : vts ts = 0) : ndC ps ts = if (ts.all fun t => pas ps t) = true then 8 else 0 := by
  have hz : vpt ps ts = 0 := by unfold vpt; rw [hv]; exact ht
  unfold ndC
  rw [pL_ok hz]
  congr 1
  rw [eq_iff_iff, plc_nil, List.all_eq_true]
  constructor
  · intro h t ht
    have := h (pas ps t == false) (List.mem_map.2 ⟨t, ht, rfl⟩)
    cases hp : pas ps t
    · rw [hp] at this; cases this
    · rfl
  · intro h b hb
    obtain ⟨t, ht, rfl⟩ := List.mem_map.1 hb
    rw [h t ht]
    rfl
/-- The errors of a search, and of one at a place. -/
def skC (ps : List L) (ts : List T) (n : Int) : Int := feL [feL [vp ps, vts ts], kdC n, ndC ps ts]
def fxC (ps : List L) (ts : List T) (i n : Int) : Int := feL [feL [vp ps, vts ts], plC ps i, kdC n, ndC ps ts]
theorem fe2_ok {a b : Int} (h : feL [a, b] = 0) : a = 0 ∧ b = 0 := by
  simp only [feL] at h
  by_cases h1 : a = 0
  · rw [if_pos h1] at h
    by_cases h2 : b = 0
    · exact ⟨h1, h2⟩
    · rw [if_neg h2] at h; exact absurd h h2
  · rw [if_neg h1] at h; exact absurd h h1
theorem fe_split {a : Int} {r : List Int} (h : feL (a :: r) = 0) : a = 0 ∧ feL r = 0 := by
  unfold feL at h
  by_cases h1 : a = 0
  · rw [if_pos h1] at h; exact ⟨h1, h⟩
  · rw [if_neg h1] at h; exact absurd h h1
theorem kd_ok {n : Int} (h : kdC n = 0) : 0 ≤ n ∧ n ≤ 2 := by
  unfold kdC at h
  split at h
  · assumption
  · cases h
theorem plc_ok {ps : List L} {i : Int} (h : plC ps i = 0) : 0 ≤ i ∧ i < (ps.length : Int) := by
  unfold plC at h
  split at h
  · rename_i hb
    have := btw_true.1 hb
    omega
  · cases h
theorem nd_ok {ps : List L} {ts : List T} (h : ndC ps ts = 0) : ¬ (pL false ps ts).length = 0 := by
  unfold ndC at h
  split at h
  · cases h
  · assumption
theorem skC_ok {ps : List L} {ts : List T} {n : Int} (h : skC ps ts n = 0) : vp ps = 0 ∧ vts ts = 0 ∧ (0 ≤ n ∧ n ≤ 2) ∧ ndC ps ts = 0 := by
  obtain ⟨h1, h2⟩ := fe_split h
  obtain ⟨h3, h4⟩ := fe_split h2
  obtain ⟨h5, _⟩ := fe_split h4
  obtain ⟨h6, h7⟩ := fe2_ok h1
  exact ⟨h6, h7, kd_ok h3, h5⟩
theorem fxC_ok {ps : List L} {ts : List T} {i n : Int} (h : fxC ps ts i n = 0) : vp ps = 0 ∧ vts ts = 0 ∧ (0 ≤ i ∧ i < (ps.length : Int)) ∧ (0 ≤ n ∧ n ≤ 2) ∧ ndC ps ts = 0 := by
  obtain ⟨h1, h2⟩ := fe_split h
  obtain ⟨h3, h4⟩ := fe_split h2
  obtain ⟨h5, h6⟩ := fe_split h4
  obtain ⟨h7, _⟩ := fe_split h6
  obtain ⟨h8, h9⟩ := fe2_ok h1
  exact ⟨h8, h9, plc_ok h3, kd_ok h5, h7⟩
def fxR (ps : List L) (ts : List T) (i n : Int) : List L := if fxC ps ts i n = 0 then fxL ps ts i.toNat n else []


set_option maxHeartbeats 1000000 in
theorem sValidateTests_any (a h : Option Addr) (ca ch : Nat) (ps : List L) (ts : List T) (w : World) (hp : LinesAt w a ps) (hts : TestsAt w h ts) (hm : ps.length ≤ 1000) (hm2 : ts.length ≤ 1000) (hml : ∀ t ∈ ts, t.inn.length ≤ 1000) :
    Calls Tryz.prog 41 #[.slice a ps.length ca, .slice h ts.length ch] w fun e w' => e = .returned (.int .i64 (feL [vp ps, vts ts])) ∧ Below w.heap.size w w' := by
  have H1 := Lib.hid (fun w h => validate_any a ca ps w h)
  have H2 := Lib.hid (fun w h2 => validateTests_C h ch ts w h2 hm2 hml)
  have HP := Lib.hid hp
  have HT := Lib.hid hts
  generalize vp ps = d1 at *
  generalize vts ts = d2 at *
  clear hp hts hml
  go_enter Tryz.func41, Tryz.ntmps41
  go_wp2_with fail
  refine (H1.out _ HP.out).mono ?_
  rintro e w1 ⟨rfl, hB⟩
  have HB1 := Lib.hid hB
  clear hB
  go_wp2_with fail
  refine (H2.out _ (HT.out.below HB1.out (Nat.le_refl _))).mono ?_
  rintro e w2 ⟨rfl, hB⟩
  have HB2 := Lib.hid (HB1.out.trans (hB.mono HB1.out.size))
  clear hB
  go_wp2_with fail
  refine (firstError_any _ 2 [d1, d2] _ (ints_lit' (zs := [d1, d2]) rfl) (by simp)).mono ?_
  rintro e w3 ⟨rfl, rfl⟩
  have HB3 := Lib.hid (HB2.out.alloc HB2.out.size (.cells (iv [d1, d2]) 25))
  generalize w2.alloc (.cells (iv [d1, d2]) 25) = W3 at *

  go_wp2_with fail
  go_ret
  exact ⟨rfl, HB3.out⟩

set_option maxHeartbeats 1000000 in
theorem sValidateNeed_any (a h : Option Addr) (ca ch : Nat) (ps : List L) (ts : List T) (w : World) (hp : LinesAt w a ps) (hts : TestsAt w h ts) (hm : ps.length ≤ 1000) (hm2 : ts.length ≤ 1000) (hml : ∀ t ∈ ts, t.inn.length ≤ 1000) :
    Calls Tryz.prog 44 #[.slice a ps.length ca, .slice h ts.length ch] w fun e w' => e = .returned (.int .i64 (ndC ps ts)) ∧ Below w.heap.size w w' := by
  have H1 := Lib.hid (fun w h1 h2 => failing_any a h ca ch ps ts w h1 h2 hm2 hml)
  have HP := Lib.hid hp
  have HT := Lib.hid hts
  unfold ndC
  generalize pL false ps ts = R at *
  generalize vpt ps ts = q at *
  clear hp hts hml
  by_cases hR : R.length = 0
  · have hR1 : decide ((R.length : Int) = 0) = true := by simp [hR]
    have hR2 : ((R.length : Int) == 0) = true := by simp [hR]
    have HR := Lib.hid hR
    rw [if_pos HR.out]
    clear hR
    go_enter Tryz.func44, Tryz.ntmps44
    go_wp2_with fail
    refine (H1.out _ HP.out HT.out).mono ?_
    rintro e w1 ⟨a4, k4, rfl, h4, hB⟩
    have HB1 := Lib.hid hB
    clear hB h4
    go_wp2_with fail
    go_ret
    exact ⟨rfl, HB1.out⟩
  · have hR1 : decide ((R.length : Int) = 0) = false := decide_eq_false (by omega)
    have hR2 : ((R.length : Int) == 0) = false := beq_eq_false_iff_ne.2 (by omega)
    have HR := Lib.hid hR
    rw [if_neg HR.out]
    clear hR
    go_enter Tryz.func44, Tryz.ntmps44
    go_wp2_with fail
    refine (H1.out _ HP.out HT.out).mono ?_
    rintro e w1 ⟨a4, k4, rfl, h4, hB⟩
    have HB1 := Lib.hid hB
    clear hB h4
    go_wp2_with fail
    go_ret
    exact ⟨rfl, HB1.out⟩


end Go.Proofs.YtjciojoeifekeaaGreat

/- slices.DeleteFunc on lines, at the closure of seek.fixes (written by tools/gen/dlf.py out of XDlL and XOtN). -/
set_option linter.unusedVariables false
set_option linter.unusedSimpArgs false
namespace Go.Proofs.YtjciojoeifekeaaGreat
open Go.RowKit Tinker

set_option maxRecDepth 100000 in
set_option maxHeartbeats 1000000 in
theorem fixes1_any (P A B : Nat) (a h : Option Addr) (ca ch : Nat) (ps : List L) (ts : List T) (n : Int) (x : L) (w : World) (hP : w.cell? ⟨P, 0, none⟩ = some (.slice a ps.length ca)) (hA : w.cell? ⟨A, 0, none⟩ = some (.int .i64 n)) (hB : w.cell? ⟨B, 0, none⟩ = some (.slice h ts.length ch)) (bP : P < w.heap.size) (bA : A < w.heap.size) (bB : B < w.heap.size)
    (hp : LinesAt w a ps) (hts : TestsAt w h ts) (hm2 : ts.length ≤ 1000) (hml : ∀ t ∈ ts, t.inn.length ≤ 1000) (hpl : ps.length ≤ 1000) :
    Calls Tryz.prog 85 #[lv x, .pointer (some ⟨P, 0, none⟩), .pointer (some ⟨A, 0, none⟩), .pointer (some ⟨B, 0, none⟩)] w fun e w' => e = .returned (.bool (!gdR ps [⟨n, x⟩] ts)) ∧ Below w.heap.size w w' := by
  have HG := Lib.hid (fun w g h1 h2 h3 => pIsGood_any a g h ca 1 ch ps [⟨n, x⟩] ts w h1 h2 h3 (by simp) hm2 hml hpl)
  rw [show ([⟨n, x⟩] : List E).length = 1 from rfl] at HG
  obtain ⟨W0, hW0⟩ : ∃ W, W = w.alloc (.cells (lV x) 23) := ⟨_, rfl⟩
  have hb : Below w.heap.size w W0 := by rw [hW0]; exact (Below.refl _ _).alloc (Nat.le_refl _) _
  have hX : W0.heap[w.heap.size]? = some (.cells (lV x) 23 (0, 0)) := by rw [hW0]; exact hp_new rfl
  obtain ⟨x0, x1, x2, x3⟩ := boxL_cells hX
  have p0 := (hb.cell (p := ⟨P, 0, none⟩) bP).trans hP
  have a0 := (hb.cell (p := ⟨A, 0, none⟩) bA).trans hA
  have b0 := (hb.cell (p := ⟨B, 0, none⟩) bB).trans hB
  have hal : Below W0.heap.size W0 (W0.alloc (.cells #[.int .i64 n, .int .i64 x.op, .int .i64 x.to, .int .i64 x.a, .int .i64 x.b] 41)) := (Below.refl _ _).alloc (Nat.le_refl _) _
  have b1 := (hal.cell (p := ⟨B, 0, none⟩) (Nat.lt_of_lt_of_le bB hb.size)).trans b0
  have hsz : W0.heap.size = w.heap.size + 1 := by rw [hW0]; simp
  have hX1 := edit_at W0 41 ⟨n, x⟩
  rw [hsz] at hX1
  have HX := Lib.hid hX1
  have HP := Lib.hid ((hp.below hb (Nat.le_refl _)).below hal (Nat.le_refl _))
  have HT := Lib.hid ((hts.below hb (Nat.le_refl _)).below hal (Nat.le_refl _))
  have HB := Lib.hid (hb.trans (hal.mono hb.size))
  generalize gdR ps [⟨n, x⟩] ts = r at *
  generalize vpx ps [⟨n, x⟩] (vts ts) = q at *
  clear hb hX hp hts hP hA hB hml hal hsz hX1
  unfold lv
  unfold lV at hW0
  go_enter Tryz.func85, Tryz.ntmps85
  rw [hW0] at p0 a0 b0 b1 x0 x1 x2 x3
  go_wp2_with fail
  rw [← hW0]
  clear hW0
  refine (HG.out _ _ HP.out HX.out HT.out).mono ?_
  rintro e w1 ⟨rfl, hB⟩
  have HB1 := Lib.hid (HB.out.trans (hB.mono HB.out.size))
  clear hB
  cases r
  · go_wp2_with fail
    go_ret
    exact ⟨rfl, HB1.out⟩
  · go_wp2_with fail
    go_ret
    exact ⟨rfl, HB1.out⟩

set_option maxRecDepth 100000 in
set_option maxHeartbeats 1000000 in
theorem idxFx_any (P A B : Nat) (F : L → Bool) (a : Option Addr) (c : Nat) (zs : List L) (w : World) (hz : LinesAt w a zs) (hm : zs.length ≤ 1000)
    (hC : ∀ W, Below w.heap.size w W → ∀ n, Calls Tryz.prog 85 #[lv n, .pointer (some ⟨P, 0, none⟩), .pointer (some ⟨A, 0, none⟩), .pointer (some ⟨B, 0, none⟩)] W fun e w' => e = .returned (.bool (F n)) ∧ Below W.heap.size W w') :
    Calls Tryz.prog 116 #[.slice a zs.length c, .func (.func 85) #[] #[.pointer (some ⟨P, 0, none⟩), .pointer (some ⟨A, 0, none⟩), .pointer (some ⟨B, 0, none⟩)]] w fun e w' => e = .returned (.int .i64 (idxF F zs)) ∧ Below w.heap.size w w' := by
  have HC := Lib.hid hC
  have HZ := Lib.hid hz
  clear hC hz
  unfold lv at HC
  go_enter Tryz.func116, Tryz.ntmps116
  go_wp2_with fail
  go_loopw [8] (fun s8 wr => ∃ k : Nat, k ≤ zs.length ∧ s8 = .int .i64 k ∧ (zs.take k).all (fun x => !F x) = true ∧ Below w.heap.size w wr) (fun s8 _ => zs.length - (intOf s8).toNat)
  case atStart => exact ⟨0, Nat.zero_le _, rfl, by simp, Below.refl _ _⟩
  case round =>
    obtain ⟨k, hk, rfl, hall, hB⟩ := hrel
    have HA := Lib.hid hall
    have HB := Lib.hid hB
    clear hall hB
    by_cases hlt : k < zs.length
    · obtain ⟨b, off, x, rfl, hlb, hx, c0, c1, c2, c3⟩ := (HZ.out.below HB.out (Nat.le_refl _)).at_ hlt
      have HX := Lib.hid hx
      have HF := Lib.hid (HC.out wr HB.out x)
      clear hx
      cases hn : F x
      · have HN := Lib.hid (all_snoc (f := fun x => !F x) HA.out HX.out (by simpa using hn))
        rw [hn] at HF
        clear hn
        go_wp2_with fail
        refine HF.out.mono ?_
        rintro e w1 ⟨rfl, hB1⟩
        have HB1 := Lib.hid (HB.out.trans (hB1.mono HB.out.size))
        clear hB1 c0 c1 c2 c3
        go_wp2_with fail
        go_roundw
        case rel => exact ⟨k + 1, by omega, by go_num, HN.out, HB1.out⟩
        case measure => simp [intOf]; omega
      · have HI := Lib.hid (idxF_at (F := F) HA.out HX.out hn)
        rw [hn] at HF
        clear hn
        go_wp2_with fail
        refine HF.out.mono ?_
        rintro e w1 ⟨rfl, hB1⟩
        have HB1 := Lib.hid (HB.out.trans (hB1.mono HB.out.size))
        clear hB1 c0 c1 c2 c3
        go_wp2_with fail
        go_ret
        exact ⟨ret_int HI.out.symm, HB1.out⟩
    · have HI := Lib.hid (idxF_none (F := F) (all_whole HA.out hlt))
      go_wp2_with fail
      go_ret
      exact ⟨ret_int HI.out.symm, HB.out⟩

set_option maxRecDepth 100000 in
set_option maxHeartbeats 2000000 in
theorem delFx_any (P A B g base c : Nat) (F : L → Bool) (zs : List L) (w : World) (hO : w.ownsRow base 23 4 (.slice (some ⟨g, 0, none⟩) zs.length c) zs.length (lc zs)) (hm : zs.length ≤ 1000)
    (hC : ∀ W, Off g w W → ∀ n, Calls Tryz.prog 85 #[lv n, .pointer (some ⟨P, 0, none⟩), .pointer (some ⟨A, 0, none⟩), .pointer (some ⟨B, 0, none⟩)] W fun e w' => e = .returned (.bool (F n)) ∧ Below W.heap.size W w') :
    Calls Tryz.prog 83 #[.slice (some ⟨g, 0, none⟩) zs.length c, .func (.func 85) #[] #[.pointer (some ⟨P, 0, none⟩), .pointer (some ⟨A, 0, none⟩), .pointer (some ⟨B, 0, none⟩)]] w fun e w' =>
      e = .returned (.slice (some ⟨g, 0, none⟩) (zs.filter fun x => !F x).length c) ∧ w'.ownsRow base 23 4 (.slice (some ⟨g, 0, none⟩) (zs.filter fun x => !F x).length c) (zs.filter fun x => !F x).length (lc (zs.filter fun x => !F x)) ∧ Off g w w' := by
  have HI := Lib.hid (idxFx_any P A B F (some ⟨g, 0, none⟩) c zs w (lines_of_own hO).1 hm (fun W hW => hC W (Off.low hW)))
  have HC := Lib.hid hC
  have HO := Lib.hid hO
  clear hC hO
  unfold lv at HC
  have hcap := own_cap HO.out
  rcases idxF_cases F zs with ⟨h1, h2⟩ | ⟨k0, x0, h1, h2, h3, h4⟩
  · rw [h1] at HI
    rw [h2]
    clear h1 h2
    go_enter Tryz.func83, Tryz.ntmps83
    go_wp2_with fail
    refine HI.out.mono ?_
    rintro e w1 ⟨rfl, hB⟩
    have HO1 := Lib.hid (own_below HO.out hB (Nat.le_refl _))
    have HB := Lib.hid hB
    clear hB
    go_wp2_with fail
    go_ret
    exact ⟨rfl, HO1.out, Off.low HB.out⟩
  · rw [h1] at HI
    have hkl : k0 < zs.length := (List.getElem?_eq_some_iff.1 h2).1
    have HD := Lib.hid h4
    have hne : ((k0 : Int) == -1) = false := beq_eq_false_iff_ne.2 (by omega)
    clear h1 h2 h3 h4
    go_enter Tryz.func83, Tryz.ntmps83
    go_wp2_with fail
    refine HI.out.mono ?_
    rintro e w1 ⟨rfl, hB⟩
    have HO1 := Lib.hid (own_below HO.out hB (Nat.le_refl _))
    have HB := Lib.hid hB
    clear hB
    go_wp2_with fail
    go_loopw [5, 6] (fun s5 s6 wr => ∃ (i j : Nat) (ds : List L), s5 = .int .i64 i ∧ s6 = .int .i64 j ∧ DelI F zs ds i j ∧ wr.ownsRow base 23 4 (.slice (some ⟨g, 0, none⟩) zs.length c) zs.length (lc ds) ∧ Off g w wr) (fun _ s6 _ => zs.length - (intOf s6).toNat)
    case atStart => exact ⟨k0, k0 + 1, zs, rfl, by go_num, HD.out, HO1.out, Off.low HB.out⟩
    case round =>
      clear HO HO1 HD HI HB
      obtain ⟨i, j, ds, rfl, rfl, hD, hO, hF⟩ := hrel
      have hij := hD.lt
      have hjl := hD.le
      by_cases hlt : j < zs.length
      · obtain ⟨x, hx⟩ := get_of_lt hlt
        obtain ⟨b, off, x', eb, hlb, hx', c0, c1, c2, c3⟩ := (lines_of_own hO).1.at_ (k := j) (by rw [hD.len]; exact hlt)
        injection eb with eb
        injection eb with e1 e2 e3
        subst e1
        subst e2
        rw [hD.at_ hx] at hx'
        injection hx' with hx'
        subst hx'
        rw [Nat.zero_add] at c0 c1 c2 c3
        have hal : Below wr.heap.size wr (wr.alloc (.cells #[.int .i64 x.op, .int .i64 x.to, .int .i64 x.a, .int .i64 x.b] 23)) := (Below.refl _ _).alloc (Nat.le_refl _) _
        have HAl := Lib.hid (Off.low (g := g) hal)
        have HF := Lib.hid (HC.out _ (hF.trans (Off.low hal)) x)
        have hO := own_below hO hal (Nat.le_refl _)
        have hi : i < ds.length := by rw [hD.len]; omega
        have HX := Lib.hid hx
        have HD := Lib.hid hD
        have HO := Lib.hid hO
        have HW := Lib.hid (hF.trans (Off.low hal))
        have HOne := Lib.hid (one_line x)
        clear hx hD hO hF hal
        cases hn : F x
        · have HD2 := Lib.hid (HD.out.keep HX.out hn)
          rw [hn] at HF
          clear hn
          go_wp2_with fail
          refine HF.out.mono ?_
          rintro e w1 ⟨rfl, hB1⟩
          have HO1 := Lib.hid (own_below HO.out hB1 (Nat.le_refl _))
          have HW1 := Lib.hid (HW.out.trans (Off.low hB1))
          have hbx := hp_below (hp_new (w := wr) (o := .cells #[.int .i64 x.op, .int .i64 x.to, .int .i64 x.a, .int .i64 x.b] 23 (0, 0)) rfl) hB1 (by simp)
          obtain ⟨v0, v1, v2, v3⟩ := boxL_cells (l := x) hbx
          clear hbx
          have HTh := Lib.hid (own_there HO1.out hi)
          have HPL := Lib.hid (own_setLine HO1.out hi x)
          clear hB1 c0 c1 c2 c3
          go_wp2_with (refine wpList_store_mid rfl 23 (.tmp 33) (.tmp 32) rfl g (i * 4) #[.int .i64 x.op, .int .i64 x.to, .int .i64 x.a, .int .i64 x.b] rfl rfl HTh.out info_ln HOne.out ?_)
          go_wp2_with fail
          go_roundw
          case rel => exact ⟨i + 1, j + 1, _, by go_num, by go_num, HD2.out, HPL.out, HW1.out.trans (Off.setCells _ _ _ _)⟩
          case measure => simp [intOf]; omega
        · have HD2 := Lib.hid (HD.out.skip HX.out hn)
          rw [hn] at HF
          clear hn
          go_wp2_with fail
          refine HF.out.mono ?_
          rintro e w1 ⟨rfl, hB1⟩
          have HO1 := Lib.hid (own_below HO.out hB1 (Nat.le_refl _))
          have HW1 := Lib.hid (HW.out.trans (Off.low hB1))
          clear hB1 c0 c1 c2 c3
          go_wp2_with fail
          go_roundw
          case rel => exact ⟨i, j + 1, _, rfl, by go_num, HD2.out, HO1.out, HW1.out⟩
          case measure => simp [intOf]; omega
      · obtain rfl : j = zs.length := by omega
        have HE := Lib.hid hD.done
        obtain ⟨cur, hcl, hown⟩ := own_clear (t := 24) (e := 23) (z := .agg #[.int .i64 0, .int .i64 0, .int .i64 0, .int .i64 0]) (k := 4) Tryz.underlying24 Tryz.zeroValue23 one_lnV.1 one_lnV.2 hO (show i < zs.length from hij) (by decide) (c - i) 0
        have hil : i = (zs.filter fun x => !F x).length := by rw [← HE.out, List.length_take, hD.len]; omega
        rw [← lc_take, HE.out] at hown
        have HIL := Lib.hid hil
        clear hil
        have HW := Lib.hid (hF.trans (Off.setRow g wr cur))
        have HOW := Lib.hid hown
        clear hD hO hF hown HE HC
        have hci : ¬ c = i := by omega
        go_wp2_with fail
        go_ret
        have HOW := HOW.out
        have HIL := HIL.out
        rw [← HIL]
        exact ⟨rfl, HOW, HW.out⟩

set_option maxHeartbeats 1000000 in
theorem delFxNil_any (P A B : Nat) (F : L → Bool) (w : World) (hC : ∀ W, Below w.heap.size w W → ∀ n, Calls Tryz.prog 85 #[lv n, .pointer (some ⟨P, 0, none⟩), .pointer (some ⟨A, 0, none⟩), .pointer (some ⟨B, 0, none⟩)] W fun e w' => e = .returned (.bool (F n)) ∧ Below W.heap.size W w') :
    Calls Tryz.prog 83 #[.slice none 0 0, .func (.func 85) #[] #[.pointer (some ⟨P, 0, none⟩), .pointer (some ⟨A, 0, none⟩), .pointer (some ⟨B, 0, none⟩)]] w fun e w' => e = .returned (.slice none 0 0) ∧ Below w.heap.size w w' := by
  have HI := Lib.hid (idxFx_any P A B F none 0 [] w (.inl rfl) (by decide) hC)
  rw [show idxF F [] = -1 from rfl] at HI
  clear hC
  go_enter Tryz.func83, Tryz.ntmps83
  go_wp2_with fail
  refine HI.out.mono ?_
  rintro e w1 ⟨rfl, hB⟩
  have HB := Lib.hid hB
  clear hB
  go_wp2_with fail
  go_ret
  exact ⟨rfl, HB.out⟩
/-- slices.DeleteFunc, be the list nil or not. -/
theorem delFxO_any (P A B base c : Nat) (a : Option Addr) (F : L → Bool) (zs : List L) (w : World) (hO : w.ownsRow base 23 4 (.slice a zs.length c) zs.length (lc zs)) (hm : zs.length ≤ 1000) (hb : base ≤ w.heap.size)
    (hC : ∀ W, Below base w W → ∀ n, Calls Tryz.prog 85 #[lv n, .pointer (some ⟨P, 0, none⟩), .pointer (some ⟨A, 0, none⟩), .pointer (some ⟨B, 0, none⟩)] W fun e w' => e = .returned (.bool (F n)) ∧ Below W.heap.size W w') :
    Calls Tryz.prog 83 #[.slice a zs.length c, .func (.func 85) #[] #[.pointer (some ⟨P, 0, none⟩), .pointer (some ⟨A, 0, none⟩), .pointer (some ⟨B, 0, none⟩)]] w fun e w' =>
      ∃ a' c', e = .returned (.slice a' (zs.filter fun x => !F x).length c') ∧ w'.ownsRow base 23 4 (.slice a' (zs.filter fun x => !F x).length c') (zs.filter fun x => !F x).length (lc (zs.filter fun x => !F x)) ∧ Below base w w' := by
  cases a with
  | none =>
    have hz := (lines_of_own hO).1.none
    have hc := own_nil hO rfl
    subst hz hc
    refine (delFxNil_any P A B F w fun W hW => hC W (hW.mono hb)).mono ?_
    rintro e w' ⟨rfl, hB⟩
    exact ⟨none, 0, rfl, World.ownsRow_nil _ _ _ _, hB.mono hb⟩
  | some ad =>
    have had : ∃ g, ad = ⟨g, 0, none⟩ := by
      rcases hO.2 with ⟨he, _⟩ | ⟨g', cap, cur, he, _⟩
      · cases he
      · injection he with h1
        injection h1 with h1
        exact ⟨g', h1⟩
    obtain ⟨g, rfl⟩ := had
    refine (delFx_any P A B g base c F zs w hO hm fun W hW => hC W (hW.below (own_base' hO) hb)).mono ?_
    rintro e w' ⟨rfl, hO', hF⟩
    exact ⟨_, _, rfl, hO', hF.below (own_base' hO) hb⟩

end Go.Proofs.YtjciojoeifekeaaGreat

/- fixes, Fixes of seek: contracts. -/
set_option linter.unusedVariables false
set_option linter.unusedSimpArgs false
namespace Go.Proofs.YtjciojoeifekeaaGreat
open Go.RowKit Go.Shelf Tinker

set_option maxRecDepth 100000 in
set_option maxHeartbeats 4000000 in
theorem sfixes_any (a h : Option Addr) (ca ch : Nat) (ps : List L) (ts : List T) (i : Nat) (n : Int) (w : World) (hp : LinesAt w a ps) (hts : TestsAt w h ts) (hv : vp ps = 0) (ht : vts ts = 0) (hi : i < ps.length) (h0 : 0 ≤ n) (h2 : n ≤ 2) :
    Calls Tryz.prog 46 #[.slice a ps.length ca, .slice h ts.length ch, .int .i64 (i : Int), srcV n] w (GivesLines (fxL ps ts i n) w) := by
  obtain ⟨h8, _⟩ := vp_ok hv
  obtain ⟨t8, hT⟩ := vts_ok ht
  have HC := Lib.hid (fun w h9 => candidates_any a ca ps i n w h9 hv hi h0 h2)
  have hml : ∀ t ∈ ts, t.inn.length ≤ 1000 := fun t h => by have := (vs_ok (isT_ok (hT t h)).1).1; omega
  have HF1 := Lib.hid (fun P A B x w b1 b2 b3 b4 b5 b6 b7 b8 => fixes1_any P A B a h ca ch ps ts (i : Int) x w b1 b2 b3 b4 b5 b6 b7 b8 (by omega) hml (by omega))
  obtain ⟨F, hF⟩ : ∃ F : L → Bool, F = fun m => !gdR ps [⟨(i : Int), m⟩] ts := ⟨_, rfl⟩
  have HE := Lib.hid (show (cndL ps i n).filter (fun m => !F m) = fxL ps ts i n by rw [hF]; exact fx_filter (n := n) hv ht hi)
  have hl9 := cnd_len9 ps i n
  obtain ⟨W0, hW0⟩ : ∃ W, W = ((w.alloc (.cells #[.slice a ps.length ca] 24)).alloc (.cells #[.slice h ts.length ch] 33)).alloc (.cells #[.int .i64 (i : Int)] 3) := ⟨_, rfl⟩
  have hb : Below w.heap.size w W0 := by rw [hW0]; exact (((Below.refl _ _).alloc (Nat.le_refl _) _).alloc (by simp) _).alloc (by simp; omega) _
  have hX1 : W0.heap[w.heap.size]? = some (.cells #[.slice a ps.length ca] 24 (0, 0)) := by rw [hW0]; exact hp_alloc (hp_alloc (hp_new rfl))
  have hX2 : W0.heap[w.heap.size + 1]? = some (.cells #[.slice h ts.length ch] 33 (0, 0)) := by rw [hW0]; exact hp_alloc (hp_new (by simp))
  have hX3 : W0.heap[w.heap.size + 2]? = some (.cells #[.int .i64 (i : Int)] 3 (0, 0)) := by rw [hW0]; exact hp_new (by simp)
  have x1 := hp_cell hX1 (j := 0) (by rfl)
  have x2 := hp_cell hX2 (j := 0) (by rfl)
  have x3 := hp_cell hX3 (j := 0) (by rfl)
  have HB0 := Lib.hid hb
  have HP := Lib.hid (hp.below hb (Nat.le_refl _))
  have HT := Lib.hid (hts.below hb (Nat.le_refl _))
  have HK := Lib.hid (show ∀ W, Below W0.heap.size W0 W → ∀ x, Calls Tryz.prog 85 #[lv x, .pointer (some ⟨w.heap.size, 0, none⟩), .pointer (some ⟨w.heap.size + 2, 0, none⟩), .pointer (some ⟨w.heap.size + 1, 0, none⟩)] W fun e w' => e = .returned (.bool (F x)) ∧ Below W.heap.size W w' from fun W hW x => by
    rw [hF]
    exact HF1.out w.heap.size (w.heap.size + 2) (w.heap.size + 1) x W ((hW.cell (p := ⟨w.heap.size, 0, none⟩) (hp_lt hX1)).trans x1) ((hW.cell (p := ⟨w.heap.size + 2, 0, none⟩) (hp_lt hX3)).trans x3) ((hW.cell (p := ⟨w.heap.size + 1, 0, none⟩) (hp_lt hX2)).trans x2) (Nat.lt_of_lt_of_le (hp_lt hX1) hW.size) (Nat.lt_of_lt_of_le (hp_lt hX3) hW.size) (Nat.lt_of_lt_of_le (hp_lt hX2) hW.size) (HP.out.below hW (Nat.le_refl _)) (HT.out.below hW (Nat.le_refl _)))
  have HD := Lib.hid (fun (base c : Nat) aq (zs : List L) (w1 : World) h1 h2 h3 h4 => delFxO_any w.heap.size (w.heap.size + 2) (w.heap.size + 1) base c aq F zs w1 h1 h2 h3 h4)
  clear hF
  rw [← HE.out]
  generalize cndL ps i n = Z at *
  clear hv ht hi h0 h2 hp hts hml hT hb hX1 hX2 hX3 HE HF1
  go_enter Tryz.func46, Tryz.ntmps46
  rw [hW0] at x1 x2 x3
  go_wp2_with fail
  rw [← hW0]
  clear hW0 x1 x2 x3
  refine (HC.out _ HP.out).mono ?_
  rintro e w1 ⟨aq, cq, rfl, hq, hB⟩
  have HQ := Lib.hid hq
  have HB := Lib.hid hB
  clear hq hB
  go_wp2_with fail
  refine (HD.out W0.heap.size cq aq Z w1 HQ.out hl9 HB.out.size (fun W hW x => HK.out W (HB.out.trans (hW.mono (Nat.le_refl _))) x)).mono ?_
  rintro e w2 ⟨a9, c9, rfl, hO9, hB9⟩
  have HO9 := Lib.hid (own_mono hO9 HB0.out.size)
  have HB9 := Lib.hid (HB0.out.trans ((HB.out.trans hB9).mono HB0.out.size))
  clear hO9 hB9
  go_wp2_with fail
  go_ret
  exact ⟨_, _, rfl, HO9.out, HB9.out⟩

set_option maxRecDepth 100000 in
set_option maxHeartbeats 4000000 in
theorem sFixes_any (a h : Option Addr) (ca ch : Nat) (ps : List L) (ts : List T) (i n : Int) (w : World) (hp : LinesAt w a ps) (hts : TestsAt w h ts) (hm : ps.length ≤ 1000) (hm2 : ts.length ≤ 1000) (hml : ∀ t ∈ ts, t.inn.length ≤ 1000) :
    Calls Tryz.prog 17 #[.slice a ps.length ca, .slice h ts.length ch, .int .i64 i, .int .i64 n] w (GivesLinesE (fxR ps ts i n) (fxC ps ts i n) w) := by
  have H1 := Lib.hid (fun w h1 h2 => sValidateTests_any a h ca ch ps ts w h1 h2 hm hm2 hml)
  have H2 := Lib.hid (fun w => validatePlace_any a ca ps i w hm)
  have H3 := Lib.hid (fun w => validateKind_any n w)
  have H4 := Lib.hid (fun w h1 h2 => sValidateNeed_any a h ca ch ps ts w h1 h2 hm hm2 hml)
  have HP := Lib.hid hp
  have HT := Lib.hid hts
  by_cases hz : fxC ps ts i n = 0
  · obtain ⟨v1, v2, v3, v4, v5⟩ := fxC_ok hz
    have hfe : feL [feL [vp ps, vts ts], plC ps i, kdC n, ndC ps ts] = 0 := hz
    have H6 := Lib.hid (fun w => sourceOf_any n w v4.1 v4.2)
    have hti : ((i.toNat : Nat) : Int) = i := by omega
    have H7 := Lib.hid (fun w h1 h2 => sfixes_any a h ca ch ps ts i.toNat n w h1 h2 v1 v2 (by omega) v4.1 v4.2)
    rw [hti] at H7
    rw [hz, show fxR ps ts i n = fxL ps ts i.toNat n by unfold fxR; rw [if_pos hz]]
    clear hz v1 v2 v3 v4 v5 hti hp hts hml
    generalize fxL ps ts i.toNat n = R at *
    generalize srcV n = v at *
    generalize feL [vp ps, vts ts] = d1 at *
    generalize plC ps i = d2 at *
    generalize kdC n = d3 at *
    generalize ndC ps ts = d4 at *
    go_enter Tryz.func17, Tryz.ntmps17
    go_wp2_with fail
    refine (H1.out _ HP.out HT.out).mono ?_
    rintro e w1 ⟨rfl, hB⟩
    have HB1 := Lib.hid hB
    clear hB
    go_wp2_with fail
    refine (H2.out _).mono ?_
    rintro e w1' ⟨rfl, rfl⟩
    go_wp2_with fail
    refine (H3.out _).mono ?_
    rintro e w2 ⟨rfl, hB⟩
    have HB2 := Lib.hid (HB1.out.trans (hB.mono HB1.out.size))
    clear hB
    go_wp2_with fail
    refine (H4.out _ (HP.out.below HB2.out (Nat.le_refl _)) (HT.out.below HB2.out (Nat.le_refl _))).mono ?_
    rintro e w3 ⟨rfl, hB⟩
    have HB3 := Lib.hid (HB2.out.trans (hB.mono HB2.out.size))
    clear hB
    go_wp2_with fail
    refine (firstError_any _ 4 [d1, d2, d3, d4] _ (ints_lit' (zs := [d1, d2, d3, d4]) rfl) (by simp)).mono ?_
    rintro e w4 ⟨rfl, rfl⟩
    rw [hfe]
    have HB4 := Lib.hid (HB3.out.alloc HB3.out.size (.cells (iv [d1, d2, d3, d4]) 25))
    generalize w3.alloc (.cells (iv [d1, d2, d3, d4]) 25) = W4 at *
    go_wp2_with fail
    refine (H6.out _).mono ?_
    rintro e w5 ⟨rfl, hB⟩
    have HB5 := Lib.hid (HB4.out.trans (hB.mono HB4.out.size))
    clear hB
    go_wp2_with fail
    refine (H7.out _ (HP.out.below HB5.out (Nat.le_refl _)) (HT.out.below HB5.out (Nat.le_refl _))).mono ?_
    rintro e w6 ⟨aq, cq, rfl, hq, hB⟩
    have HO := Lib.hid (own_mono hq HB5.out.size)
    have HB6 := Lib.hid (HB5.out.trans (hB.mono HB5.out.size))
    clear hB hq
    go_wp2_with fail
    go_ret2
    exact ⟨_, _, rfl, HO.out, HB6.out⟩
  · have hfe : feL [feL [vp ps, vts ts], plC ps i, kdC n, ndC ps ts] = fxC ps ts i n := rfl
    have y1 : (fxC ps ts i n != 0) = true := by simpa using hz
    rw [show fxR ps ts i n = [] by unfold fxR; rw [if_neg hz]]
    clear hz hp hts hml
    generalize fxC ps ts i n = q at *
    generalize feL [vp ps, vts ts] = d1 at *
    generalize plC ps i = d2 at *
    generalize kdC n = d3 at *
    generalize ndC ps ts = d4 at *
    go_enter Tryz.func17, Tryz.ntmps17
    go_wp2_with fail
    refine (H1.out _ HP.out HT.out).mono ?_
    rintro e w1 ⟨rfl, hB⟩
    have HB1 := Lib.hid hB
    clear hB
    go_wp2_with fail
    refine (H2.out _).mono ?_
    rintro e w1' ⟨rfl, rfl⟩
    go_wp2_with fail
    refine (H3.out _).mono ?_
    rintro e w2 ⟨rfl, hB⟩
    have HB2 := Lib.hid (HB1.out.trans (hB.mono HB1.out.size))
    clear hB
    go_wp2_with fail
    refine (H4.out _ (HP.out.below HB2.out (Nat.le_refl _)) (HT.out.below HB2.out (Nat.le_refl _))).mono ?_
    rintro e w3 ⟨rfl, hB⟩
    have HB3 := Lib.hid (HB2.out.trans (hB.mono HB2.out.size))
    clear hB
    go_wp2_with fail
    refine (firstError_any _ 4 [d1, d2, d3, d4] _ (ints_lit' (zs := [d1, d2, d3, d4]) rfl) (by simp)).mono ?_
    rintro e w4 ⟨rfl, rfl⟩
    rw [hfe]
    have HB4 := Lib.hid (HB3.out.alloc HB3.out.size (.cells (iv [d1, d2, d3, d4]) 25))
    generalize w3.alloc (.cells (iv [d1, d2, d3, d4]) 25) = W4 at *
    go_wp2_with fail
    go_ret2
    exact givesLinesE_nil HB4.out

end Go.Proofs.YtjciojoeifekeaaGreat
