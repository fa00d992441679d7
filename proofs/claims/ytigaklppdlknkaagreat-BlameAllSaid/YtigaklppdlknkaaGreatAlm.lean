/- Several texts in one. -/
import Derived.Test.YtigaklppdlknkaaGreatBlI
import Derived.Test.YtigaklppdlknkaaGreatRit
import Derived.Test.YtigaklppdlknkaaGreatLineC
import Derived.Test.YtigaklppdlknkaaGreatCkb
import Derived.Test.YtigaklppdlknkaaGreatKnownT
import Derived.Test.YtigaklppdlknkaaGreatRSl
/- All sets of lines to blame: each is, and without failing tests there are as many as lines that write make. -/
set_option linter.unusedVariables false
set_option linter.unusedSimpArgs false
namespace Go.Proofs.YtigaklppdlknkaaGreat
open Go.RowKit Tinker

/-- The places of the lines that write. -/
def wlN (ps : List L) : List Nat := (List.range 8).filter fun j => decide (j < ps.length) && wrB (ps.getD j ⟨0, 0, 0, 0⟩)
def wlM (ps : List L) : Nat := maskM ((wlN ps).map fun n : Nat => (n : Int))
theorem wlM_bit (ps : List L) (i : Nat) : (wlM ps).testBit i = (decide (i < 8) && (decide (i < ps.length) && wrB (ps.getD i ⟨0, 0, 0, 0⟩))) := by
  unfold wlM
  rw [maskM_bit]
  rw [Bool.eq_iff_iff, List.any_eq_true]
  constructor
  · rintro ⟨x, hx, e⟩
    obtain ⟨j, hj, rfl⟩ := List.mem_map.1 hx
    have e2 : j = i := by simpa using e
    subst e2
    unfold wlN at hj
    rw [List.mem_filter, List.mem_range] at hj
    rw [hj.2, Bool.and_true]
    exact decide_eq_true hj.1
  · intro h
    rw [Bool.and_eq_true] at h
    refine ⟨(i : Int), List.mem_map.2 ⟨i, ?_, rfl⟩, by simp⟩
    unfold wlN
    rw [List.mem_filter, List.mem_range]
    exact ⟨of_decide_eq_true h.1, h.2⟩
theorem wlM_lt (ps : List L) : wlM ps < 256 := by
  refine Nat.lt_pow_two_of_testBit (n := 8) _ fun i hi => ?_
  rw [wlM_bit, show decide (i < 8) = false from decide_eq_false (by omega)]
  rfl
theorem wlM_nums (ps : List L) : (numsM (wlM ps)).length = (wlN ps).length := by
  unfold numsM
  rw [List.length_map]
  congr 1
  unfold wlN
  refine List.filter_congr fun i hi => ?_
  rw [wlM_bit, show decide (i < 8) = true from decide_eq_true (List.mem_range.1 hi), Bool.true_and]
/-- How many lines write. -/
def wnN (ps : List L) : Nat := (ps.filter wrB).length
theorem range_filter {f : L → Bool} {d : L} : ∀ (k : Nat) (ps : List L), ps.length ≤ k → ((List.range k).filter fun j => decide (j < ps.length) && f (ps.getD j d)).length = (ps.filter f).length
  | 0, [], _ => rfl
  | 0, _ :: _, h => by simp at h
  | k + 1, [], _ => by simp
  | k + 1, l :: ps, h => by
    have ih := range_filter (f := f) (d := d) k ps (by simpa using h)
    rw [List.range_succ_eq_map, List.filter_cons, List.filter_map, List.filter_cons]
    have e : ((fun j => decide (j < (l :: ps).length) && f ((l :: ps).getD j d)) ∘ Nat.succ) = fun j => decide (j < ps.length) && f (ps.getD j d) := by
      funext j
      simp
    rw [e]
    have e0 : (decide (0 < (l :: ps).length) && f ((l :: ps).getD 0 d)) = f l := by simp
    rw [e0]
    cases f l
    · simp only [Bool.false_eq_true, if_false, List.length_map]
      exact ih
    · simp only [if_true, List.length_cons, List.length_map]
      rw [ih]
theorem wlN_len {ps : List L} (h : ps.length ≤ 8) : (wlN ps).length = wnN ps := by
  unfold wlN wnN
  exact range_filter 8 ps h

/-- How many masks of so many numbers lie in another one. -/
def cntM (k wm : Nat) : Nat := (enumM.filter fun m => decide ((numsM m).length = k) && (m &&& wm == m)).length
set_option maxRecDepth 100000 in
theorem cnt_ones : (enumM.filter fun m => decide ((numsM m).length = 1)).length = 8 := by decide +kernel
set_option maxRecDepth 100000 in
theorem cnt_1 : ∀ wm, wm < 256 → cntM 1 wm = (numsM wm).length := by decide +kernel
set_option maxRecDepth 100000 in
theorem cnt_2 : ∀ wm, wm < 256 → cntM 2 wm = (numsM wm).length * ((numsM wm).length - 1) / 2 := by decide +kernel

theorem ln_sub {ps : List L} {m : Nat} (hm : m < 256) (hk : (numsM m).length ≤ 2) : (lnC ps (numsM m) == 0) = (m &&& wlM ps == m) := by
  rw [Bool.eq_iff_iff, subM_and]
  have hs := setB_nums m hm
  unfold setB at hs
  rw [Bool.and_eq_true] at hs
  constructor
  · intro h i hi
    have h0 : lnC ps (numsM m) = 0 := by simpa using h
    obtain ⟨h1, h2, h3, h4⟩ := lnC_ok h0
    have hi8 := bit_lt hm hi
    have him : (i : Int) ∈ numsM m := numsM_mem.2 ⟨hi8, hi⟩
    have hb := allBtw_at h2 him
    have hw := List.all_eq_true.1 h4 _ him
    rw [wlM_bit, show decide (i < 8) = true from decide_eq_true hi8, show decide (i < ps.length) = true from decide_eq_true (by omega), Bool.true_and, Bool.true_and]
    simpa using hw
  · intro h
    have hin : ∀ n ∈ numsM m, ∃ i : Nat, n = i ∧ i < 8 ∧ i < ps.length ∧ wrB (ps.getD i ⟨0, 0, 0, 0⟩) = true := by
      intro n hn
      have hn2 := hn
      unfold numsM at hn2
      obtain ⟨i, hi, rfl⟩ := List.mem_map.1 hn2
      obtain ⟨h8, hb⟩ := numsM_mem.1 hn
      have := h i hb
      rw [wlM_bit, Bool.and_eq_true, Bool.and_eq_true] at this
      exact ⟨i, rfl, h8, of_decide_eq_true this.2.1, this.2.2⟩
    have h2 : allBtw (numsM m) 0 ((ps.length : Int) - 1) = true := List.all_eq_true.2 fun n hn => by
      obtain ⟨i, rfl, _, hl, _⟩ := hin n hn
      exact btw_true.2 (by omega)
    have h4 : awB ps (numsM m) = true := List.all_eq_true.2 fun n hn => by
      obtain ⟨i, rfl, _, _, hw⟩ := hin n hn
      simpa using hw
    rw [lnC_0 hs.1 h2 hk h4]
    rfl


/-- How many sets of so many lines write. -/
def smN (ps : List L) (size : Int) : Int := if size = 2 then ((wnN ps : Int) * ((wnN ps : Int) - 1)).tdiv 2 else wnN ps
theorem bm_count {ps : List L} {ts : List T} {size : Int} (h : bmC ps ts size = 0) (hz : fT ps ts = []) : ((bmL ps ts size).length : Int) = smN ps size := by
  have e : bmL ps ts size = (enumM.filter (bmB ps (fT ps ts) size)).map numsM := by unfold bmL; rw [if_pos h]
  have hb : vpt ps ts = 0 ∧ btw size 1 2 = true := by
    unfold bmC at h
    split at h
    · rename_i h0
      split at h
      · rename_i h1; exact ⟨h0, h1⟩
      · cases h
    · rename_i h0; exact absurd h h0
  have hs := btw_true.1 hb.2
  have hl := (vp_ok (vpt_ok hb.1).1).1
  have key : ∀ k : Nat, k ≤ 2 → size = (k : Int) → (bmL ps ts size).length = cntM k (wlM ps) := by
    intro k hk hsk
    rw [e, List.length_map, hz]
    unfold cntM
    congr 1
    refine List.filter_congr fun m hm => ?_
    have hm8 := enum_lt m hm
    unfold bmB
    rw [show capB ps [] (numsM m) = true from rfl, Bool.and_true]
    subst hsk
    by_cases hq : (numsM m).length = k
    · rw [ln_sub hm8 (by omega)]
      rw [show decide ((numsM m).length = k) = true from decide_eq_true hq, show (((numsM m).length : Int) == (k : Int)) = true by rw [hq]; simp]
    · rw [show decide ((numsM m).length = k) = false from decide_eq_false hq, show (((numsM m).length : Int) == (k : Int)) = false from beq_eq_false_iff_ne.2 (by omega)]
      rfl
  have hw : (numsM (wlM ps)).length = wnN ps := by rw [wlM_nums, wlN_len (by omega)]
  have hcase : size = 1 ∨ size = 2 := by omega
  rcases hcase with rfl | rfl
  · rw [key 1 (by omega) rfl, cnt_1 _ (wlM_lt ps), hw]
    unfold smN
    rw [if_neg (by omega)]
  · rw [key 2 (by omega) rfl, cnt_2 _ (wlM_lt ps), hw]
    unfold smN
    rw [if_pos rfl]
    have h8 : wnN ps ≤ 8 := by unfold wnN; have := List.length_filter_le wrB ps; omega
    generalize wnN ps = n at h8
    have : n = 0 ∨ n = 1 ∨ n = 2 ∨ n = 3 ∨ n = 4 ∨ n = 5 ∨ n = 6 ∨ n = 7 ∨ n = 8 := by omega
    rcases this with rfl | rfl | rfl | rfl | rfl | rfl | rfl | rfl | rfl <;> rfl
theorem bm_each {ps : List L} {ts : List T} {size : Int} (h : bmC ps ts size = 0) {z : List Int} (hz : z ∈ bmL ps ts size) : itC ps ts z = 0 ∧ itB ps ts z = true ∧ (z.length : Int) = size := by
  have e : bmL ps ts size = (enumM.filter (bmB ps (fT ps ts) size)).map numsM := by unfold bmL; rw [if_pos h]
  have hb : vpt ps ts = 0 := by
    unfold bmC at h
    split at h
    · assumption
    · rename_i h0; exact absurd h h0
  rw [e] at hz
  obtain ⟨m, hm, rfl⟩ := List.mem_map.1 hz
  have hB := (List.mem_filter.1 hm).2
  unfold bmB at hB
  rw [Bool.and_eq_true, Bool.and_eq_true] at hB
  have hc : itC ps ts (numsM m) = 0 := by
    unfold itC
    rw [if_pos hb]
    simpa using hB.2.1
  refine ⟨hc, ?_, by simpa using hB.1⟩
  unfold itB
  rw [if_pos hc]
  exact hB.2.2
theorem bm_len (ps : List L) (ts : List T) (size : Int) : (bmL ps ts size).length ≤ 256 := by
  unfold bmL
  split
  · rw [List.length_map]
    have := List.length_filter_le (bmB ps (fT ps ts) size) enumM
    have := enum_len
    omega
  · simp
theorem bm_small {ps : List L} {ts : List T} {size : Int} {z : List Int} (h : z ∈ bmL ps ts size) : z.length ≤ 8 := by
  unfold bmL at h
  split at h
  · obtain ⟨m, _, rfl⟩ := List.mem_map.1 h
    exact numsM_len m
  · simp at h

theorem wn_step {ps : List L} {k : Nat} {l : L} (h : ps[k]? = some l) : wnN (ps.take (k + 1)) = wnN (ps.take k) + (if wrB l then 1 else 0) := by
  unfold wnN
  rw [List.take_add_one, h, List.filter_append, List.length_append]
  cases hw : wrB l <;> simp [hw]
theorem wn_le (ps : List L) : wnN ps ≤ ps.length := by unfold wnN; exact List.length_filter_le _ _

set_option maxRecDepth 100000 in
set_option maxHeartbeats 2000000 in
theorem some_any (a : Option Addr) (ca : Nat) (ps : List L) (size : Int) (w : World) (hp : LinesAt w a ps) (hm : ps.length ≤ 1000) :
    Calls Tryz.prog 18 #[.slice a ps.length ca, .int .i64 size] w fun e w' => e = .returned (.int .i64 (smN ps size)) ∧ Below w.heap.size w w' := by
  go_enter Tryz.func18, Tryz.ntmps18
  go_wp2_with fail
  go_loopw [5, 6] (fun s5 s6 wr => ∃ k : Nat, k ≤ ps.length ∧ s5 = .int .i64 (wnN (ps.take k) : Nat) ∧ s6 = .int .i64 k ∧ Below w.heap.size w wr) (fun _ s6 _ => ps.length - (intOf s6).toNat)
  case atStart => exact ⟨0, Nat.zero_le _, rfl, rfl, Below.refl _ _⟩
  case round =>
    obtain ⟨k, hk, rfl, rfl, hB⟩ := hrel
    have hwk : wnN (ps.take k) ≤ 1000 := by have := wn_le (ps.take k); rw [List.length_take] at this; omega
    by_cases hlt : k < ps.length
    · obtain ⟨b, off, l, rfl, hlb, hl, c0, c1, c2, c3⟩ := (hp.below hB (Nat.le_refl _)).at_ hlt
      have HW := Lib.hid (fun w => rWrites_A l w)
      have HS := Lib.hid (wn_step hl)
      have HB := Lib.hid hB
      unfold lv at HW
      clear hl hp hB
      generalize wnN (ps.take k) = n at HS hwk ⊢
      cases hv : wrB l
      · rw [hv] at HW HS
        clear hv
        go_wp2_with fail
        refine (HW.out _).mono ?_
        rintro e w2 ⟨rfl, hB2⟩
        have HB2 := Lib.hid (HB.out.trans (hB2.mono HB.out.size))
        clear hB2 HW
        go_wp2_with fail
        go_roundw
        case rel => exact ⟨k + 1, by omega, by rw [HS.out]; rfl, by go_num, HB2.out⟩
        case measure => simp [intOf]; omega
      · rw [hv] at HW HS
        clear hv
        go_wp2_with fail
        refine (HW.out _).mono ?_
        rintro e w2 ⟨rfl, hB2⟩
        have HB2 := Lib.hid (HB.out.trans (hB2.mono HB.out.size))
        clear hB2 HW
        go_wp2_with fail
        go_roundw
        case rel => exact ⟨k + 1, by omega, by rw [HS.out]; go_num, by go_num, HB2.out⟩
        case measure => simp [intOf]; omega
    · obtain rfl : k = ps.length := by omega
      rw [List.take_length] at hwk ⊢
      have HB := Lib.hid hB
      have HE := Lib.hid (show smN ps size = if size = 2 then ((wnN ps : Int) * ((wnN ps : Int) - 1)).tdiv 2 else (wnN ps : Int) from rfl)
      clear hB hp
      generalize wnN ps = n at hwk HE
      by_cases h2 : size = 2
      · subst h2
        rw [if_pos rfl] at HE
        have hq1 : (n : Int) * ((n : Int) - 1) ≤ 1000 * 1000 := by
          rcases Nat.eq_zero_or_pos n with h | h
          · subst h; decide
          · exact Int.mul_le_mul (by omega) (by omega) (by omega) (by omega)
        have hq0 : 0 ≤ (n : Int) * ((n : Int) - 1) := by
          rcases Nat.eq_zero_or_pos n with h | h
          · subst h; decide
          · exact Int.mul_nonneg (by omega) (by omega)
        go_wp2_with fail
        go_ret
        refine ⟨ret_int (Eq.trans ?_ HE.out.symm), HB.out⟩
        exact (Int.tdiv_eq_ediv_of_nonneg hq0).symm
      · rw [if_neg h2] at HE
        have h2' : (size == 2) = false := by simpa using h2
        clear h2
        go_wp2_with fail
        go_ret
        exact ⟨ret_int HE.out.symm, HB.out⟩

end Go.Proofs.YtigaklppdlknkaaGreat

/- Slices and Diagnoses of both: contracts. -/
set_option linter.unusedVariables false
set_option linter.unusedSimpArgs false
namespace Go.Proofs.YtigaklppdlknkaaGreat
open Go.RowKit Tinker

/-- The slice of a test. -/
def slT (ps : List L) (t : T) : List Int := slA ps t.inn t.out
theorem isSetB_of_pair : ∀ {l : List Int}, l.Pairwise (· < ·) → isSetB l = true
  | [], _ => rfl
  | [x], _ => rfl
  | x :: y :: r, h => by
    obtain ⟨h1, h2⟩ := List.pairwise_cons.1 h
    rw [isSetB, isSetB_of_pair h2, decide_eq_true (h1 y (by simp))]
    rfl
theorem plc_set {l : List Bool} (h : l.length ≤ 8) : setB (plc l) = true := by
  unfold setB plc plcTo
  rw [Bool.and_eq_true]
  constructor
  · refine isSetB_of_pair ?_
    rw [List.pairwise_map]
    exact (List.pairwise_lt_range.sublist List.filter_sublist).imp fun h => by simpa using h
  · unfold allBtw
    rw [List.all_eq_true]
    intro x hx
    simp only [List.mem_map, List.mem_filter, List.mem_range] at hx
    obtain ⟨n, ⟨hn, _⟩, rfl⟩ := hx
    exact btw_true.2 (by simp; omega)
theorem slA_set (ps : List L) (s : List Int) (r : Int) : setB (slA ps s r) = true := by
  unfold slA
  split
  · refine plc_set ?_
    have e : (sliceB ps (doneL (runS ps s)) r.toNat).length = 8 := by unfold sliceB; rw [(foldSl_length _ _ _).2]; simp [sl0]
    omega
  · rfl
theorem slT_len (ps : List L) (t : T) : (slT ps t).length ≤ 8 := setB_len (slA_set _ _ _)

set_option maxRecDepth 100000 in
set_option maxHeartbeats 2000000 in
theorem slicesOf_any (a g : Option Addr) (ca cap : Nat) (ps : List L) (ts : List T) (w : World) (hp : LinesAt w a ps) (hts : TestsAt w g ts) (hm : ts.length ≤ 1000) (hml : ∀ t ∈ ts, t.inn.length ≤ 1000) :
    Calls Tryz.prog 97 #[.slice a ps.length ca, .slice g ts.length cap] w (GivesRowsB ((fT ps ts).map (slT ps)) w) := by
  obtain ⟨j0, hjj, jz0, jz1, jz2⟩ := info_parts info_ints
  have HF := Lib.hid (failingT_any a g ca cap ps ts w hp hts hm hml)
  have HML := Lib.hid (fun t h => hml t (fT_mem (ps := ps) (ts := ts) (t := t) h))
  have hfl : (fT ps ts).length ≤ 1000 := by have := pL_len false ps ts; unfold fT; rw [List.length_map]; omega
  have HP := Lib.hid hp
  generalize fT ps ts = ws at HF HML hfl ⊢
  clear hp hts hml
  go_enter Tryz.func97, Tryz.ntmps97
  go_wp2_with fail
  refine HF.out.mono ?_
  rintro e w1 ⟨g1, c1, rfl, h1, hB1⟩
  have HT := Lib.hid h1
  have HB1 := Lib.hid hB1
  clear h1 hB1
  go_wp2_with fail
  go_loopw [5, 14] (fun s5 s14 wr => ∃ (k : Nat) (xs : List Value), k ≤ ws.length ∧ s14 = .int .i64 k ∧ RowsI w1 s5 ((ws.take k).map (slT ps)) xs wr) (fun _ s14 _ => ws.length - (intOf s14).toNat)
  case atStart => exact ⟨0, [], Nat.zero_le _, rfl, RowsI.nil (Below.refl _ _)⟩
  case round =>
    obtain ⟨k, xs, hk, rfl, hI⟩ := hrel
    by_cases hlk : k < ws.length
    · obtain ⟨gb, off, t, a', c, rfl, hlb, ht, c0, c1', c2, hi⟩ := (HT.out.below hI.below (Nat.le_refl _)).at_ hlk
      have hnew := boxT_new (a := a') (n := t.inn.length) (ca := c) (out := t.out) (want := t.want) wr
      have x0 := hnew.c0
      have x1 := hnew.c1
      have x2 := hnew.c2
      have HI1 := Lib.hid (hI.low hnew.below)
      have hpw := HP.out.below ((HB1.out.trans (hI.below.mono HB1.out.size)).trans (hnew.below.mono (Nat.le_trans HB1.out.size hI.below.size))) (Nat.le_refl _)
      have HSL := Lib.hid (slice_any a a' ca c ps t.inn t.out _ hpw (hi.below hnew.below (Nat.le_refl _)) (by have := HML.out t (mem_of_get ht); omega))
      have HS := Lib.hid (map_take_snoc (slT ps) ht)
      have hpl : ((ws.take k).map (slT ps)).length = k := by simp; omega
      have HPL := Lib.hid hpl
      have hx8 := slT_len ps t
      have HNX := Lib.hid (show slA ps t.inn t.out = slT ps t from rfl)
      rw [HNX.out] at HSL
      generalize slT ps t = y at HSL HS hx8
      generalize slCode ps t.inn t.out = co at HSL
      clear ht hi hI hnew hpw hpl HNX
      go_wp2_with fail
      refine HSL.out.mono ?_
      rintro e w3 ⟨a3, c3, rfl, h3, hB3⟩
      have hI3 := HI1.out.low hB3
      have hal := below_al w3 (.cells #[.slice a3 y.length c3] 34)
      have HI4 := Lib.hid (hI3.low hal)
      have hO := ownL_of h3
      have HO := Lib.hid (show OwnL (w3.alloc (.cells #[.slice a3 y.length c3] 34)) w1.heap.size u5.ownBlock a3 y from (by
        rcases hO with h | ⟨q, q1, q2, q3, q4⟩
        · exact .inl h
        · refine .inr ⟨q, q1, Nat.le_trans HI1.out.below.size q2, fun e => ?_, q4.same (hal.block q q4.lt)⟩
          have := (HI1.out.out.lt q e).2
          omega))
      have hsz := HI1.out.below.size
      have hsz3 := hB3.size
      clear h3 hB3 hI3 hal hO HI1 x0 x1 x2
      go_wp2_with (at_builtin; refine wpList_append_own_at _ rfl (.tmp 27) (.tmp 29) 27 rfl w1.heap.size 34 j0 (.slice none 0 0) 1 24 Tryz.underlying27 hjj jz0 jz1 jz2 rfl (by decide) _ _ _ rfl HI4.out.out ⟨w3.heap.size, 0, none⟩ 1 1 [.slice a3 y.length c3] rfl ?d1 ?d2 ?d3 ?d4 ?d5 ?d6 ?_)
      case d1 => rfl
      case d2 => exact cell_one_new _ _ _
      case d3 => simp [Value.oneCell']
      case d4 => rw [HPL.out]; unfold maxLen; omega
      case d5 => rw [HPL.out]; omega
      case d6 => simp at hsz hsz3 ⊢; omega
      intro v2 w4 hown4 hgrow4 _ hat4
      have hP := HI4.out.push (c := c3) HO.out (by rw [HPL.out]; exact hown4) hgrow4 (by simpa using hat4)
      rw [← HS.out] at hP
      have HP2 := Lib.hid hP
      clear hown4 hgrow4 hat4 hP
      go_wp2_with fail
      go_roundw
      case rel => exact ⟨k + 1, _, by omega, by go_num, HP2.out⟩
      case measure => simp [intOf]; omega
    · obtain rfl : k = ws.length := by omega
      rw [List.take_length] at hI
      obtain ⟨va, vc, rfl⟩ := own_slice hI.out
      obtain ⟨ga, gc, ge, gr, gb⟩ := hI.givesB
      injection ge with ge
      injection ge with g1' g2 g3
      subst g1' g3
      have HG := Lib.hid (gr.wide HB1.out.size)
      have HB4 := Lib.hid (HB1.out.trans (gb.mono HB1.out.size))
      clear hI gr gb
      go_wp2_with fail
      go_ret
      exact ⟨va, vc, by rw [List.length_map]; rfl, HG.out, HB4.out⟩

/-- What Slices answers. -/
def slL (ps : List L) (ts : List T) : List (List Int) := if vpt ps ts = 0 then (fT ps ts).map (slT ps) else []
theorem slL_ok {ps : List L} {ts : List T} (h : vpt ps ts = 0) : slL ps ts = (fT ps ts).map (slT ps) := by unfold slL; rw [if_pos h]
theorem slL_no {ps : List L} {ts : List T} (h : vpt ps ts ≠ 0) : slL ps ts = [] := by unfold slL; rw [if_neg h]
theorem slL_small {ps : List L} {ts : List T} {z : List Int} (h : z ∈ slL ps ts) : setB z = true := by
  unfold slL at h
  split at h
  · obtain ⟨t, _, rfl⟩ := List.mem_map.1 h
    exact slA_set _ _ _
  · simp at h
theorem slL_len (ps : List L) (ts : List T) : (slL ps ts).length ≤ 8 := by
  unfold slL
  split
  · rename_i h
    have h8 := (vts_ok (vpt_ok h).2).1
    have := pL_len false ps ts
    rw [List.length_map]; unfold fT; rw [List.length_map]; omega
  · simp
theorem slL_v (ps : List L) (ts : List T) : vfam (slL ps ts) = 0 :=
  vfam_good (by have := slL_len ps ts; omega) (List.all_eq_true.2 fun z hz => slL_small hz)

set_option maxRecDepth 100000 in
set_option maxHeartbeats 2000000 in
theorem Slices_any (a g : Option Addr) (ca cap : Nat) (ps : List L) (ts : List T) (w : World) (hp : LinesAt w a ps) (hts : TestsAt w g ts) (hm : ts.length ≤ 1000) (hml : ∀ t ∈ ts, t.inn.length ≤ 1000) :
    Calls Tryz.prog 38 #[.slice a ps.length ca, .slice g ts.length cap] w (GivesRowsBE (slL ps ts) (vpt ps ts) w) := by
  have HV := Lib.hid (validateTestsB_any a g ca cap ps ts w hp hts hm hml)
  have HS := Lib.hid (fun w hp hts => slicesOf_any a g ca cap ps ts w hp hts hm hml)
  have HP := Lib.hid hp
  have HT := Lib.hid hts
  clear hp hts
  by_cases hz : vpt ps ts = 0
  · rw [slL_ok hz, hz]
    rw [hz] at HV
    generalize (fT ps ts).map (slT ps) = Z at HS ⊢
    clear hz
    go_enter Tryz.func38, Tryz.ntmps38
    go_wp2_with fail
    refine HV.out.mono ?_
    rintro e w1 ⟨rfl, hB⟩
    have HB := Lib.hid hB
    clear hB
    go_wp2_with fail
    refine (HS.out _ (HP.out.below HB.out (Nat.le_refl _)) (HT.out.below HB.out (Nat.le_refl _))).mono ?_
    rintro e w2 ⟨a2, c2, rfl, h2, hB2⟩
    have HR := Lib.hid (h2.wide HB.out.size)
    have HB2 := Lib.hid (HB.out.trans (hB2.mono HB.out.size))
    clear h2 hB2
    go_wp2_with fail
    go_ret2
    exact ⟨a2, c2, rfl, HR.out, HB2.out⟩
  · rw [slL_no hz]
    generalize vpt ps ts = co at HV hz
    have hz1 : (co != 0) = true := by simpa using hz
    have hz2 : (co == 0) = false := by simpa using hz
    clear hz
    go_enter Tryz.func38, Tryz.ntmps38
    go_wp2_with fail
    refine HV.out.mono ?_
    rintro e w1 ⟨rfl, hB⟩
    go_wp2_with fail
    go_ret2
    exact givesRowsBE_nil hB

/-- What Diagnoses answers. -/
def dgL (ps : List L) (ts : List T) : List (List Int) := if vpt ps ts = 0 then blkL (slL ps ts) else []
theorem dgL_ok {ps : List L} {ts : List T} (h : vpt ps ts = 0) : dgL ps ts = blkL (slL ps ts) := by unfold dgL; rw [if_pos h]
theorem dgL_no {ps : List L} {ts : List T} (h : vpt ps ts ≠ 0) : dgL ps ts = [] := by unfold dgL; rw [if_neg h]

set_option maxRecDepth 100000 in
set_option maxHeartbeats 2000000 in
theorem Diagnoses_any (a g : Option Addr) (ca cap : Nat) (ps : List L) (ts : List T) (w : World) (hp : LinesAt w a ps) (hts : TestsAt w g ts) (hm : ts.length ≤ 1000) (hml : ∀ t ∈ ts, t.inn.length ≤ 1000) :
    Calls Tryz.prog 39 #[.slice a ps.length ca, .slice g ts.length cap] w (GivesRowsBE (dgL ps ts) (vpt ps ts) w) := by
  have HV := Lib.hid (validateTestsB_any a g ca cap ps ts w hp hts hm hml)
  have HS := Lib.hid (fun w hp hts => slicesOf_any a g ca cap ps ts w hp hts hm hml)
  have HP := Lib.hid hp
  have HT := Lib.hid hts
  clear hp hts
  by_cases hz : vpt ps ts = 0
  · have hb := fun b c w h => Blocker_any b c (slL ps ts) w h (fun z hz => by have := setB_len (slL_small hz); omega)
    rw [slL_v, slL_ok hz] at hb
    have HBK := Lib.hid hb
    rw [dgL_ok hz, hz, slL_ok hz]
    rw [hz] at HV
    generalize blkL ((fT ps ts).map (slT ps)) = Y at HBK ⊢
    generalize (fT ps ts).map (slT ps) = Z at HS HBK
    clear hz hb
    go_enter Tryz.func39, Tryz.ntmps39
    go_wp2_with fail
    refine HV.out.mono ?_
    rintro e w1 ⟨rfl, hB⟩
    have HB := Lib.hid hB
    clear hB
    go_wp2_with fail
    refine (HS.out _ (HP.out.below HB.out (Nat.le_refl _)) (HT.out.below HB.out (Nat.le_refl _))).mono ?_
    rintro e w2 ⟨a2, c2, rfl, h2, hB2⟩
    have HR := Lib.hid h2.at_
    have HB2 := Lib.hid (HB.out.trans (hB2.mono HB.out.size))
    clear h2 hB2
    go_wp2_with fail
    refine (HBK.out _ _ _ HR.out).mono ?_
    rintro e w3 ⟨a3, c3, rfl, h3, hB3⟩
    have HR3 := Lib.hid (h3.wide HB2.out.size)
    have HB3 := Lib.hid (HB2.out.trans (hB3.mono HB2.out.size))
    clear h3 hB3
    go_wp2_with fail
    go_ret2
    exact ⟨a3, c3, rfl, HR3.out, HB3.out⟩
  · rw [dgL_no hz]
    generalize vpt ps ts = co at HV hz
    have hz1 : (co != 0) = true := by simpa using hz
    have hz2 : (co == 0) = false := by simpa using hz
    clear hz
    go_enter Tryz.func39, Tryz.ntmps39
    go_wp2_with fail
    refine HV.out.mono ?_
    rintro e w1 ⟨rfl, hB⟩
    go_wp2_with fail
    go_ret2
    exact givesRowsBE_nil hB

end Go.Proofs.YtigaklppdlknkaaGreat
