/- Covered of both: contracts. -/
import Derived.Test.YtndmjenfgggfbaaTabB
set_option linter.unusedVariables false
set_option linter.unusedSimpArgs false
namespace Go.Proofs.Ytndmjenfgggfbaa
open Go.RowKit Tinker

/-- The first j numbers of a row that are 1 are added. -/
def orTo1 (bs : List Bool) (zs : List Int) : Nat → List Bool
  | 0 => bs
  | j + 1 => (orTo1 bs zs j).set j ((orTo1 bs zs j).getD j false || zs.getD j 0 == 1)
theorem orTo1_length (bs : List Bool) (zs : List Int) : ∀ j, (orTo1 bs zs j).length = bs.length
  | 0 => rfl
  | j + 1 => by rw [orTo1, List.length_set]; exact orTo1_length bs zs j
theorem getD_setB (bs : List Bool) (j i : Nat) (v : Bool) : (bs.set j v).getD i false = if i = j ∧ j < bs.length then v else bs.getD i false := by
  rw [List.getD_eq_getElem?_getD, List.getD_eq_getElem?_getD, List.getElem?_set]
  by_cases h : j = i
  · subst h
    by_cases hl : j < bs.length
    · simp [hl]
    · simp [hl]
  · have : ¬ i = j := fun e => h e.symm
    simp [h, this]
theorem orTo1_get (bs : List Bool) (zs : List Int) (i : Nat) : ∀ j, (orTo1 bs zs j).getD i false = if i < j ∧ i < bs.length then (bs.getD i false || zs.getD i 0 == 1) else bs.getD i false
  | 0 => by simp [orTo1]
  | j + 1 => by
    rw [orTo1, getD_setB, orTo1_length]
    by_cases h : i = j ∧ j < bs.length
    · obtain ⟨rfl, h2⟩ := h
      rw [if_pos ⟨rfl, h2⟩, if_pos ⟨by omega, h2⟩, orTo1_get bs zs i i, if_neg (by omega)]
    · rw [if_neg h, orTo1_get bs zs i j]
      by_cases h1 : i < j ∧ i < bs.length
      · rw [if_pos h1, if_pos (by omega)]
      · rw [if_neg h1, if_neg (by omega)]
/-- What the first k rows cover. -/
def cvTo (n : Nat) (rs : List (List Int)) : Nat → List Bool
  | 0 => List.replicate n false
  | k + 1 => match rs[k]? with
    | none => cvTo n rs k
    | some zs => orTo1 (cvTo n rs k) zs n
theorem cvTo_succ {n : Nat} {rs : List (List Int)} {k : Nat} {zs : List Int} (h : rs[k]? = some zs) : cvTo n rs (k + 1) = orTo1 (cvTo n rs k) zs n := by rw [cvTo]; simp only [h]
theorem cvTo_length (n : Nat) (rs : List (List Int)) : ∀ k, (cvTo n rs k).length = n
  | 0 => by simp [cvTo]
  | k + 1 => by
    rw [cvTo]
    split
    · exact cvTo_length n rs k
    · rw [orTo1_length]; exact cvTo_length n rs k
/-- Whether one of the first k rows has a 1 at i. -/
def anyTo (rs : List (List Int)) (i : Nat) : Nat → Bool
  | 0 => false
  | k + 1 => anyTo rs i k || (rs.getD k []).getD i 0 == 1
theorem cvTo_get {n : Nat} {rs : List (List Int)} {i : Nat} (hi : i < n) : ∀ k, k ≤ rs.length → (cvTo n rs k).getD i false = anyTo rs i k
  | 0, _ => by
    rw [cvTo, anyTo, List.getD_eq_getElem?_getD, List.getElem?_replicate]; split <;> rfl
  | k + 1, h => by
    obtain ⟨zs, hz⟩ := get_of_lt (show k < rs.length by omega)
    rw [cvTo_succ hz, orTo1_get, cvTo_length, if_pos ⟨hi, hi⟩, cvTo_get hi k (by omega), anyTo, getD_of_get hz]
/-- What Covered answers. -/
def covB (ps : List L) (ts : List T) : List Bool := cvTo ps.length (ts.map (fun t => rowL ps t.inn)) ts.length
def covL (ps : List L) (ts : List T) : List Int := if vpt ps ts = 0 then plc (covB ps ts) else []
theorem covL_ok {ps : List L} {ts : List T} (h : vpt ps ts = 0) : covL ps ts = plc (covB ps ts) := by unfold covL; rw [if_pos h]
theorem covL_no {ps : List L} {ts : List T} (h : vpt ps ts ≠ 0) : covL ps ts = [] := by unfold covL; rw [if_neg h]
theorem covB_length (ps : List L) (ts : List T) : (covB ps ts).length = ps.length := cvTo_length _ _ _

set_option maxRecDepth 100000 in
set_option maxHeartbeats 4000000 in
theorem covered_any (a g : Option Addr) (ca cap : Nat) (ps : List L) (ts : List T) (w : World) (hp : LinesAt w a ps) (hts : TestsAt w g ts) (hm : ts.length ≤ 1000) (hml : ∀ t ∈ ts, t.inn.length ≤ 1000) :
    Calls Try.prog 32 #[.slice a ps.length ca, .slice g ts.length cap] w (GivesIntsE (covL ps ts) (vpt ps ts) w) := by
  have HV := Lib.hid (fun w hp hts => validateTestsP_any a g ca cap ps ts w hp hts hm hml)
  by_cases hz : vpt ps ts = 0
  · obtain ⟨h1, h2⟩ := vpt_ok hz
    obtain ⟨t8, hT⟩ := vts_ok h2
    rw [covL_ok hz, hz]
    rw [hz] at HV
    have hmk := mkBools ps.length (vp_ok h1).1
    have hbl := covB_length ps ts
    have HCV := Lib.hid (show covB ps ts = cvTo ps.length (ts.map (fun t => rowL ps t.inn)) ts.length from rfl)
    generalize covB ps ts = CV at HCV hbl
    have HBL := Lib.hid hbl
    have h8 := (vp_ok h1).1
    clear hz hbl
    go_enter Try.func32, Try.ntmps32
    go_wp2_with fail
    refine (HV.out _ hp hts).mono ?_
    rintro e w1 ⟨rfl, hB⟩
    have HB := Lib.hid hB
    clear hB
    go_wp2_with fail
    go_loopw [23] (fun s23 wr => ∃ k : Nat, k ≤ ts.length ∧ s23 = .int .i64 k ∧ BlkB w1.heap.size (cvTo ps.length (ts.map (fun t => rowL ps t.inn)) k) w1 wr) (fun s23 _ => ts.length - (intOf s23).toNat)
    case atStart => exact ⟨0, Nat.zero_le _, rfl, hp_new rfl, (Below.refl _ _).alloc (Nat.le_refl _) _⟩
    case round =>
      obtain ⟨k, hk, rfl, hI⟩ := hrel
      obtain ⟨wo, rfl⟩ : ∃ wo : World, wo = wr := ⟨_, rfl⟩
      have hBB := HB.out.trans (hI.below.mono HB.out.size)
      by_cases hlt : k < ts.length
      · obtain ⟨gb, off, t, a', c, rfl, hlb, ht, c0, c1, c2, hi⟩ := (hts.below hBB (Nat.le_refl _)).at_ hlt
        have hz : vr ps t.inn = 0 := by unfold vr fe; rw [if_pos h1]; exact (isT_ok (hT t (mem_of_get ht))).1
        have HR := Lib.hid (fun w hp hs => row_any a a' ca c ps t.inn t.out t.want w hp hs hz)
        have HS := Lib.hid (cvTo_succ (n := ps.length) (rs := ts.map (fun t => rowL ps t.inn)) (k := k) (zs := rowL ps t.inn) (by rw [List.getElem?_map, ht]; rfl))
        have HRL := Lib.hid (rowL_length ps t.inn)
        have HCL := Lib.hid (cvTo_length ps.length (ts.map (fun t => rowL ps t.inn)) k)
        generalize rowL ps t.inn = R at HR HS HRL
        have hnew := boxT_new (a := a') (n := t.inn.length) (ca := c) (out := t.out) (want := t.want) wo
        have x0 := hnew.c0
        have x1 := hnew.c1
        have x2 := hnew.c2
        have HI := Lib.hid (hI.low hnew.below)
        have HPA := Lib.hid ((hp.below hBB (Nat.le_refl _)).below hnew.below (Nat.le_refl _))
        have HII := Lib.hid (hi.below hnew.below (Nat.le_refl _))
        have HM := Lib.hid (show w1.heap.size < wo.heap.size from hp_lt hI.bm)
        clear hI ht hi hz hnew hBB
        go_wp2_with fail
        refine (HR.out _ HPA.out HII.out).mono ?_
        rintro e w2 ⟨M, rfl, hM, hRI⟩
        have HI2 := Lib.hid (HI.out.low hRI.below)
        have HRI := Lib.hid hRI.ints
        have HMM := Lib.hid (show w1.heap.size < M by have := HM.out; simp at hM; omega)
        clear HI hRI hM x0 x1 x2
        generalize cvTo ps.length (ts.map (fun t => rowL ps t.inn)) k = bs at HI2 HCL HS
        go_wp2_with fail
        go_loopw [31] (fun s31 wr => ∃ q : Nat, q ≤ ps.length ∧ s31 = .int .i64 q ∧ BlkB w1.heap.size (orTo1 bs R q) w1 wr ∧ IntsAt wr (some ⟨M, 0, none⟩) R) (fun s31 _ => ps.length - (intOf s31).toNat)
        case atStart => exact ⟨0, by omega, rfl, HI2.out, HRI.out⟩
        case round =>
          clear HI2 HRI
          obtain ⟨q, hq, rfl, hI, hd⟩ := hrel
          by_cases hlt2 : q < ps.length
          · obtain ⟨sb, so, x, e, hsb, hx, z0⟩ := hd.at_ (show q < R.length by rw [HRL.out]; exact hlt2)
            injection e with e
            injection e with e1 e2
            subst e1 e2
            rw [Nat.zero_add] at z0
            have hol : (orTo1 bs R q).length = ps.length := by rw [orTo1_length, HCL.out]
            have m1 := hp_cell hI.bm (bv_get (orTo1 bs R q) q (by rw [hol]; exact hlt2))
            have m2 := hp_free hI.bm q
            have HN := Lib.hid (show orTo1 bs R (q + 1) = (orTo1 bs R q).set q ((orTo1 bs R q).getD q false || x == 1) by rw [orTo1, getD_of_get hx])
            have HI3 := Lib.hid hI
            have HD := Lib.hid hd
            generalize (orTo1 bs R q).getD q false = y at m1 HN
            clear hI hd hx hol
            have h1' : ∀ b o, (some ⟨M, 0, none⟩ : Option Addr) = some ⟨b, o, none⟩ → b ≠ w1.heap.size := fun b o e => by
              injection e with e; injection e with e; have := HMM.out; omega
            have H1' := Lib.hid h1'
            clear h1'
            cases y
            · by_cases hx1 : x = 1
              · subst hx1
                go_wp2_with fail
                go_roundw
                case rel => exact ⟨q + 1, by omega, by go_num, by rw [HN.out]; exact HI3.out.put (Nat.le_refl _) _ _, ints_set HD.out H1'.out _ _⟩
                case measure => simp [intOf]; omega
              · have hx2 : (x == 1) = false := by simpa using hx1
                rw [hx2] at HN
                clear hx1
                go_wp2_with fail
                go_roundw
                case rel => exact ⟨q + 1, by omega, by go_num, by rw [HN.out]; exact HI3.out.put (Nat.le_refl _) _ _, ints_set HD.out H1'.out _ _⟩
                case measure => simp [intOf]; omega
            · go_wp2_with fail
              go_roundw
              case rel => exact ⟨q + 1, by omega, by go_num, by rw [HN.out]; exact HI3.out.put (Nat.le_refl _) _ _, ints_set HD.out H1'.out _ _⟩
              case measure => simp [intOf]; omega
          · obtain rfl : q = ps.length := by omega
            rw [← HS.out] at hI
            have HI3 := Lib.hid hI
            clear hI hd
            go_wp2_with fail
            go_roundw
            case rel => exact ⟨k + 1, by omega, by go_num, HI3.out⟩
            case measure => simp [intOf]; omega
      · obtain rfl : k = ts.length := by omega
        rw [← HCV.out] at hI
        have HP := Lib.hid (places_any w1.heap.size 0 CV.length CV wo hI.bools (hp_lt hI.bm) (by rw [HBL.out]; omega))
        rw [HBL.out] at HP
        clear hI
        go_wp2_with fail
        refine HP.out.mono ?_
        intro e w2 hG
        obtain ⟨a1, c1, rfl, ho, hB1⟩ := hG.wide hBB
        have HO := Lib.hid ho
        clear ho hG
        go_wp2_with fail
        go_ret2
        exact ⟨a1, c1, rfl, HO.out, hB1⟩
  · rw [covL_no hz]
    generalize vpt ps ts = c at HV hz
    have hz1 : (c != 0) = true := by simpa using hz
    have hz2 : (c == 0) = false := by simpa using hz
    clear hz
    go_enter Try.func32, Try.ntmps32
    go_wp2_with fail
    refine (HV.out _ hp hts).mono ?_
    rintro e w1 ⟨rfl, hB⟩
    go_wp2_with fail
    go_ret2
    exact givesIntsE_nil hB

set_option maxRecDepth 100000 in
set_option maxHeartbeats 4000000 in
theorem rCovered_any (a g : Option Addr) (ca cap : Nat) (ps : List L) (ts : List T) (w : World) (hp : LinesAt w a ps) (hts : TestsAt w g ts) :
    Calls Try.prog 33 #[.slice a ps.length ca, .slice g ts.length cap] w (GivesR (covL ps ts) (vpt ps ts) w) := by
  obtain ⟨i0, hi, hz0, hz1, hz2⟩ := info_parts info_int
  have HV := Lib.hid (fun w hp hts => rTable_any a g ca cap ps ts w hp hts)
  by_cases hz : vpt ps ts = 0
  · obtain ⟨h1, h2⟩ := vpt_ok hz
    obtain ⟨t8, hT⟩ := vts_ok h2
    have h8 := (vp_ok h1).1
    rw [covL_ok hz, hz]
    rw [hz, tabL_ok hz] at HV
    have hfl : (ts.map (fun t => rowL ps t.inn)).length = ts.length := by simp
    have hfr : ∀ z ∈ ts.map (fun t => rowL ps t.inn), z.length = ps.length := fun z hz' => by
      obtain ⟨t, _, rfl⟩ := List.mem_map.1 hz'; exact rowL_length _ _
    have hget : ∀ i, i < ps.length → (covB ps ts)[i]? = some (anyTo (ts.map (fun t => rowL ps t.inn)) i ts.length) := fun i hi' => by
      have hl := covB_length ps ts
      obtain ⟨x, hx⟩ := get_of_lt (show i < (covB ps ts).length by omega)
      have := cvTo_get (rs := ts.map (fun t => rowL ps t.inn)) hi' ts.length (by rw [hfl]; exact Nat.le_refl _)
      have e : (covB ps ts).getD i false = x := getD_of_get hx
      rw [hx, ← this]; exact congrArg some e.symm
    have hbl := covB_length ps ts
    generalize covB ps ts = CV at hget hbl
    generalize ts.map (fun t => rowL ps t.inn) = F at HV hfl hfr hget
    have HG := Lib.hid (show ∀ i, i < ps.length → CV[i]? = some (anyTo F i F.length) by rw [hfl]; exact hget)
    have HFR := Lib.hid hfr
    have HBL := Lib.hid hbl
    have f8 : F.length ≤ 8 := by omega
    clear hz hget hfr hbl hfl
    go_enter Try.func33, Try.ntmps33
    go_wp2_with fail
    refine (HV.out _ hp hts).mono ?_
    rintro e w1 ⟨a1, c1, rfl, hr, hB⟩
    have HR := Lib.hid hr
    clear hr
    go_wp2_with fail
    go_loopw [8, 9] (fun s8 s9 wr => ∃ k : Nat, k ≤ ps.length ∧ s9 = .int .i64 k ∧ wr.ownsRow w1.heap.size 3 1 s8 (plcTo CV k).length ((plcTo CV k).map (Value.int .i64)) ∧ Below w1.heap.size w1 wr) (fun _ s9 _ => ps.length - (intOf s9).toNat)
    case atStart => exact ⟨0, Nat.zero_le _, rfl, World.ownsRow_nil _ _ _ _, Below.refl _ _⟩
    case round =>
      obtain ⟨k, hk, rfl, hown, hB1⟩ := hrel
      obtain ⟨wo, rfl⟩ : ∃ wo : World, wo = wr := ⟨_, rfl⟩
      by_cases hlt : k < ps.length
      · have HX := Lib.hid (HG.out k hlt)
        have HRR := Lib.hid (HR.out.below hB1 (Nat.le_refl _))
        have HO := Lib.hid hown
        have HB1 := Lib.hid hB1
        clear hown hB1
        go_wp2_with fail
        go_loop [10, 11] (fun s10 s11 => ∃ q : Nat, q ≤ F.length ∧ s11 = .int .i64 q ∧ s10 = .bool (anyTo F k q)) (fun _ s11 => F.length - (intOf s11).toNat)
        case atStart => exact ⟨0, Nat.zero_le _, rfl, rfl⟩
        case round =>
          obtain ⟨q, hq, rfl, rfl⟩ := hrel
          by_cases hlt2 : q < F.length
          · obtain ⟨fb, fo, zs, az, cz, rfl, hfb, hzs, y0, hi'⟩ := HRR.out.at_ hlt2
            obtain ⟨zb, zo, x, rfl, hzb, hx, z0⟩ := hi'.at_ (show k < zs.length by rw [HFR.out zs (mem_of_get hzs)]; exact hlt)
            have hkz : (k : Int) < (zs.length : Int) := by rw [HFR.out zs (mem_of_get hzs)]; omega
            have HN := Lib.hid (show anyTo F k (q + 1) = (anyTo F k q || x == 1) by rw [anyTo, getD_of_get hzs, getD_of_get hx])
            generalize anyTo F k q = y at HN
            clear hzs hi' hx
            cases y
            · by_cases hx1 : x = 1
              · subst hx1
                go_wp2_with fail
                go_round
                case rel => exact ⟨q + 1, by omega, by go_num, by rw [HN.out]; rfl⟩
                case measure => simp [intOf]; omega
              · have hx2 : (x == 1) = false := by simpa using hx1
                rw [hx2] at HN
                clear hx1
                go_wp2_with fail
                go_round
                case rel => exact ⟨q + 1, by omega, by go_num, by rw [HN.out]; rfl⟩
                case measure => simp [intOf]; omega
            · go_wp2_with fail
              go_round
              case rel => exact ⟨q + 1, by omega, by go_num, by rw [HN.out]; rfl⟩
              case measure => simp [intOf]; omega
          · obtain rfl : q = F.length := by omega
            have hl := plcTo_length CV k
            generalize anyTo F k F.length = y at HX
            cases y
            · go_wp2_with fail
              go_roundw
              case rel => exact ⟨k + 1, by omega, by go_num, by rw [plcTo_no HX.out]; exact HO.out, HB1.out⟩
              case measure => simp [intOf]; omega
            · have hown := HO.out
              clear HO
              go_wp2_with (at_builtin; refine wpList_append_own _ rfl (.tmp 45) (.tmp 47) 23 rfl w1.heap.size 3 i0 (.int .i64 0) 1 8 Try.underlying23 hi hz0 hz1 hz2 rfl (by decide) _ _ _ rfl (hown.alloc _) ⟨wo.heap.size, 0, none⟩ 1 1 [.int .i64 k] rfl rfl ?c1 ?c2 ?c3 ?c4 ?c5 ?_)
              case c2 => simp [Value.oneCell']
              case c3 => unfold maxLen; omega
              case c4 => omega
              case c5 => have := HB1.out.size; simp; omega
              intro v' w3 hown' hgrow _
              have hB4 := Lib.hid ((HB1.out.alloc HB1.out.size _).grown hgrow (by have := HB1.out.size; simp; omega) (own_base hown))
              have e : (plcTo CV k).map (Value.int .i64) ++ [.int .i64 k] = (plcTo CV (k + 1)).map (Value.int .i64) := by rw [plcTo_yes HX.out]; simp
              have e2 : (plcTo CV k).length + 1 = (plcTo CV (k + 1)).length := by rw [plcTo_yes HX.out]; simp
              rw [e, e2] at hown'
              have HO := Lib.hid hown'
              clear hown hown' hgrow e e2
              go_wp2_with fail
              go_roundw
              case rel => exact ⟨k + 1, by omega, by go_num, HO.out, hB4.out⟩
              case measure => simp [intOf]; omega
      · obtain rfl : k = ps.length := by omega
        have hx : plcTo CV ps.length = plc CV := by unfold plc; rw [HBL.out]
        rw [hx] at hown
        obtain ⟨a2, c2, rfl⟩ := own_slice hown
        have HO := Lib.hid hown
        clear hown hx
        go_wp2_with fail
        go_ret2
        exact ⟨a2, c2, rfl, (ints_of_own HO.out).1, hB.trans (hB1.mono hB.size)⟩
  · rw [covL_no hz]
    rw [tabL_no hz] at HV
    generalize vpt ps ts = c at HV hz
    have hz1 : (c != 0) = true := by simpa using hz
    have hz2 : (c == 0) = false := by simpa using hz
    clear hz
    go_enter Try.func33, Try.ntmps33
    go_wp2_with fail
    refine (HV.out _ hp hts).mono ?_
    rintro e w1 ⟨a1, c1, rfl, hr, hB⟩
    go_wp2_with fail
    go_ret2
    exact givesR_nil hB

end Go.Proofs.Ytndmjenfgggfbaa
