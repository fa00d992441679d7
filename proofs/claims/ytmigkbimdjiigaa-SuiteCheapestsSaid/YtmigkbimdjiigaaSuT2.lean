/- Several texts in one. -/
import Derived.Test.YtmigkbimdjiigaaSuJ
import Derived.Test.YtmigkbimdjiigaaSuHc
import Derived.Test.YtmigkbimdjiigaaSvH
/- Suites of the code: the cheapest cover: contracts. -/
set_option linter.unusedVariables false
set_option linter.unusedSimpArgs false
namespace Tinker
/-- The code's order of sets: by the cost alone. -/
def cstB (c : List Int) (y m : Nat) : Bool := decide (keyC c y < keyC c m)
/-- The code's cheapest cover. -/
def cheM (t : List (List Int)) (c : List Int) : Nat := bestF (cstB c) ((enumK t.length).filter (covB (tblM t)))
/-- The error of Cheapest. -/
def csu (t : List (List Int)) (c : List Int) : Int := if vsu t = 0 then (if c.length = t.length ∧ allBtw c 1 99 = true then 0 else 1) else vsu t
end Tinker
namespace Go.Proofs.Ytmigkbimdjiigaa
open Go.RowKit Tinker

/-- A list, a number and an error. -/
def GivesINE (zs : List Int) (n c : Int) (w : World) (e : Ending) (w' : World) : Prop :=
  ∃ a k, e = .returned (.tuple #[.slice a zs.length k, .int .i64 n, .int .i64 c]) ∧ w'.ownsRow w.heap.size 3 1 (.slice a zs.length k) zs.length (zs.map (Value.int .i64)) ∧ Below w.heap.size w w'

set_option maxRecDepth 100000 in
set_option maxHeartbeats 2000000 in
theorem tSum_any (b : Option Addr) (cb : Nat) (c : List Int) (S n : Nat) (w : World) (hr : IntsAt w b c) (hl : c.length = n) (hn : n ≤ 8) (hc : ∀ x ∈ c, 0 ≤ x ∧ x ≤ 1000) (hS : S < 2 ^ n) :
    Calls Try.prog 83 #[.slice b c.length cb, .int .u64 S] w fun e w' => e = .returned (.int .i64 (keyC c S)) ∧ Below w.heap.size w w' := by
  have HN := Lib.hid (kNumbers_any S (lt_K hn hS) w)
  have hrn : ∀ x ∈ numsK S, 0 ≤ x ∧ x < (n : Int) := fun x hx => by
    rw [← nums_flt (by omega) hS] at hx
    obtain ⟨i, rfl, h1, _⟩ := fltL_mem.1 hx
    omega
  have hzl := szK_le S
  unfold szK at hzl
  unfold keyC
  have HR := Lib.hid hr
  have HRR := Lib.hid hrn
  have HCC := Lib.hid hc
  have HSM := Lib.hid (fun l => sumC_le hc l)
  generalize numsK S = R at *
  clear hr hrn hc hS
  go_enter Try.func83, Try.ntmps83
  go_wp2_with fail
  refine HN.out.mono ?_
  rintro e w1 ⟨a1, c1, rfl, ho, hB⟩
  have HI := Lib.hid (ints_of_own ho).1
  have HB := Lib.hid hB
  obtain ⟨W1, hW1⟩ : ∃ W, W = w1 := ⟨_, rfl⟩
  subst hW1
  clear ho hB
  go_wp2_with fail
  go_loopw [5, 11] (fun s5 s11 wr => ∃ k : Nat, k ≤ R.length ∧ s11 = .int .i64 k ∧ s5 = .int .i64 (sumC c (R.take k) : Nat) ∧ W1 = wr) (fun _ s11 _ => R.length - (intOf s11).toNat)
  case atStart => exact ⟨0, Nat.zero_le _, rfl, by simp [sumC], rfl⟩
  case round =>
    obtain ⟨k, hk, rfl, rfl, rfl⟩ := hrel
    by_cases hlt : k < R.length
    · obtain ⟨b2, off2, x, rfl, hlb2, hx, hcx⟩ := HI.out.at_ hlt
      obtain ⟨x0, x1⟩ := HRR.out x (mem_of_get hx)
      obtain ⟨r, rfl⟩ : ∃ r : Nat, x = (r : Int) := ⟨x.toNat, by omega⟩
      obtain ⟨b3, off3, y, rfl, hlb3, hy, hcy⟩ := (HR.out.below HB.out (Nat.le_refl _)).at_ (show r < c.length by omega)
      obtain ⟨y0, y1⟩ := HCC.out y (mem_of_get hy)
      have hq0 := HSM.out (R.take k)
      have hq1 : (R.take k).length ≤ 10 := by rw [List.length_take]; omega
      have HX := Lib.hid (show ((sumC c (R.take (k + 1)) : Nat) : Int) = ((sumC c (R.take k) : Nat) : Int) + y from by
        rw [sumC_take hx, show ((r : Int)).toNat = r from rfl, getD_of_get hy]; omega)
      have hrc : (r : Int) < (c.length : Int) := by omega
      clear hx hy
      have HL := Lib.hid hl
      clear hl
      generalize sumC c (R.take k) = Q at *
      go_wp2_with fail
      go_roundw
      case rel => exact ⟨k + 1, by omega, by go_num, by rw [HX.out], trivial⟩
      case measure => simp [intOf]; omega
    · obtain rfl : k = R.length := by omega
      rw [List.take_length]
      go_wp2_with fail
      go_ret
      exact ⟨rfl, HB.out⟩

set_option maxRecDepth 100000 in
set_option maxHeartbeats 2000000 in
theorem che1_any (b : Option Addr) (cb M : Nat) (c : List Int) (x y n : Nat) (w : World) (hM : M < w.heap.size) (x0 : w.cell? ⟨M, 0, none⟩ = some (.slice b c.length cb)) (hr : IntsAt w b c) (hl : c.length = n) (hn : n ≤ 8) (hc : ∀ x ∈ c, 0 ≤ x ∧ x ≤ 1000) (hx : x < 2 ^ n) (hy : y < 2 ^ n) :
    Calls Try.prog 82 #[.int .u64 x, .int .u64 y, .pointer (some ⟨M, 0, none⟩)] w fun e w' => e = .returned (.int .i64 (sgn8 (keyC c x) (keyC c y))) ∧ Below w.heap.size w w' := by
  have H1 := Lib.hid (fun w hr => tSum_any b cb c x n w hr hl hn hc hx)
  have H2 := Lib.hid (fun w hr => tSum_any b cb c y n w hr hl hn hc hy)
  have H3 := Lib.hid (fun w => cmpI8_any (keyC c x) (keyC c y) w)
  have HR := Lib.hid hr
  have HM := Lib.hid hM
  generalize sgn8 (keyC c x) (keyC c y) = R at H3 ⊢
  generalize (keyC c x : Int) = A at H1 H3
  generalize (keyC c y : Int) = B at H2 H3
  generalize hcl : c.length = cl at *
  clear hr hl hc hx hy hM hn hcl
  go_enter Try.func82, Try.ntmps82
  go_wp2_with fail
  have hx : Below w.heap.size w w.drew := (Below.refl _ _).drew
  go_region_held3 (fun w' => w'.cell? ⟨M, 0, none⟩ = some (.slice b cl cb)) (first | exact x0 | go_keep) (first
    | (go_at_call_of 83 (Value.int .u64 (x : Int)); refine (H1.out _ ?_).mono ?_; exact HR.out.below hx (Nat.le_refl _); rintro e wa ⟨rfl, hBa⟩; replace x0 := (hBa.cell (p := ⟨M, 0, none⟩) (Nat.lt_of_lt_of_le HM.out hx.size)).trans x0; replace hx := hx.trans (hBa.mono hx.size); clear hBa)
    | (go_at_call_of 83 (Value.int .u64 (y : Int)); refine (H2.out _ ?_).mono ?_; exact HR.out.below hx (Nat.le_refl _); rintro e wa ⟨rfl, hBa⟩; replace x0 := (hBa.cell (p := ⟨M, 0, none⟩) (Nat.lt_of_lt_of_le HM.out hx.size)).trans x0; replace hx := hx.trans (hBa.mono hx.size); clear hBa)
    | (go_at_call 79; refine (H3.out _).mono ?_; rintro e wa ⟨rfl, rfl⟩))
  all_goals go_wp2_with fail
  all_goals go_ret
  all_goals exact ⟨rfl, hx⟩

set_option maxRecDepth 100000 in
set_option maxHeartbeats 2000000 in
theorem minFunc_any (b : Option Addr) (cb M : Nat) (c : List Int) (n : Nat) (a : Option Addr) (cap : Nat) (ms : List Nat) (w : World) (hf : MskAt w a ms) (hv : ∀ x ∈ ms, x < 2 ^ n) (hl : ms.length ≤ 2000) (hp : 0 < ms.length)
    (hM : M < w.heap.size) (x0 : w.cell? ⟨M, 0, none⟩ = some (.slice b c.length cb)) (hr : IntsAt w b c) (hcl : c.length = n) (hn : n ≤ 8) (hc : ∀ x ∈ c, 0 ≤ x ∧ x ≤ 1000) :
    Calls Try.prog 81 #[.slice a ms.length cap, .func (.func 82) #[] #[.pointer (some ⟨M, 0, none⟩)]] w fun e w' => e = .returned (.int .u64 (bestF (cstB c) ms)) ∧ Below w.heap.size w w' := by
  obtain ⟨b0, off, y0, rfl, hlb, hx0, c0⟩ := hf.at_ hp
  have h1 : decide ((ms.length : Int) < 1) = false := by simp; omega
  rw [Nat.add_zero] at c0
  have HX0 := Lib.hid hx0
  have HV := Lib.hid hv
  have HF := Lib.hid hf
  have HCH := Lib.hid (fun (x y : Nat) (hx : x < 2 ^ n) (hy : y < 2 ^ n) (W : World) (hB : Below w.heap.size w W) => che1_any b cb M c x y n W (Nat.lt_of_lt_of_le hM hB.size) ((hB.cell (p := ⟨M, 0, none⟩) hM).trans x0) (hr.below hB (Nat.le_refl _)) hcl hn hc hx hy)
  clear hx0 hv hM x0 hr hcl hn hc hf
  go_enter Try.func81, Try.ntmps81
  go_wp2_with fail
  go_loopw [5, 6] (fun s5 s6 wr => ∃ k : Nat, 1 ≤ k ∧ k ≤ ms.length ∧ s6 = .int .i64 k ∧ s5 = .int .u64 (bestF (cstB c) (ms.take k)) ∧ Below w.heap.size w wr) (fun _ s6 _ => ms.length - (intOf s6).toNat)
  case atStart => exact ⟨1, Nat.le_refl _, by omega, rfl, by rw [bestF_one HX0.out], Below.refl _ _⟩
  case round =>
    clear h1 c0
    obtain ⟨k, hk1, hk, rfl, rfl, hB⟩ := hrel
    have HB := Lib.hid hB
    clear hB
    by_cases hlt : k < ms.length
    · obtain ⟨b', off', x, e', hlb', hx, c0⟩ := (HF.out.below HB.out (Nat.le_refl _)).at_ hlt
      injection e' with e'
      injection e' with e1 e2
      subst e1 e2
      have hne : ms.take k ≠ [] := fun e => by have h2 := congrArg List.length e; rw [List.length_take, List.length_nil] at h2; omega
      have hmm := HV.out _ (List.take_subset _ _ (bestF_mem (lt := cstB c) hne))
      have HC := Lib.hid (HCH.out x (bestF (cstB c) (ms.take k)) (HV.out x (mem_of_get hx)) hmm wr HB.out)
      have HS := Lib.hid (bestF_snoc (lt := cstB c) hk1 hx)
      generalize bestF (cstB c) (ms.take k) = Mm at HC HS
      have c9 := fun W3 (hB3 : Below wr.heap.size wr W3) => (hB3.cell (p := ⟨b0, off + k, none⟩) (Nat.lt_of_lt_of_le hlb HB.out.size)).trans c0
      have C9 := Lib.hid c9
      clear hx hne hmm c9
      unfold sgn8 at HC
      unfold cstB at HS
      by_cases hs : keyC c x < keyC c Mm
      · rw [decide_eq_true hs, if_pos rfl] at HS
        rw [if_pos (show ((keyC c x : Int) < (keyC c Mm : Int)) by omega)] at HC
        clear hs
        go_wp2_with fail
        refine HC.out.mono ?_
        rintro e w' ⟨rfl, hB⟩
        have c8 := C9.out _ hB
        have HB2 := Lib.hid (HB.out.trans (hB.mono HB.out.size))
        clear hB c0
        go_wp2_with fail
        go_roundw
        case rel => exact ⟨k + 1, by omega, by omega, by go_num, congrArg (fun z : Nat => Value.int .u64 (z : Int)) HS.out.symm, HB2.out⟩
        case measure => simp [intOf]; omega
      · rw [decide_eq_false hs, if_neg (by decide)] at HS
        generalize hq : (if (keyC c x : Int) < (keyC c Mm : Int) then (-1 : Int) else if (keyC c Mm : Int) < (keyC c x : Int) then 1 else 0) = q at HC
        have hq2 : decide (q < 0) = false := by
          rw [← hq, if_neg (by omega)]
          split <;> rfl
        clear hs hq
        go_wp2_with fail
        refine HC.out.mono ?_
        rintro e w' ⟨rfl, hB⟩
        have HB2 := Lib.hid (HB.out.trans (hB.mono HB.out.size))
        clear hB c0
        go_wp2_with fail
        go_roundw
        case rel => exact ⟨k + 1, by omega, by omega, by go_num, congrArg (fun z : Nat => Value.int .u64 (z : Int)) HS.out.symm, HB2.out⟩
        case measure => simp [intOf]; omega
    · obtain rfl : k = ms.length := by omega
      rw [List.take_length]
      go_wp2_with fail
      go_ret
      exact ⟨rfl, HB.out⟩

end Go.Proofs.Ytmigkbimdjiigaa

/- Suites of the code: Cheapest: contract. -/
set_option linter.unusedVariables false
set_option linter.unusedSimpArgs false
namespace Tinker
def cheA (t : List (List Int)) (c : List Int) : List Int := if csu t c = 0 then numsK (cheM t c) else []
def cheK (t : List (List Int)) (c : List Int) : Int := if csu t c = 0 then (keyC c (cheM t c) : Int) else 0
theorem che_ne {t : List (List Int)} (hl : t.length ≤ 8) : (enumK t.length).filter (covB (tblM t)) ≠ [] := fun h => by
  have h1 := covM_lt (s := tblM t) (by rw [tblM_len]; exact hl)
  rw [tblM_len] at h1
  have h2 : covM (tblM t) ∈ (enumK t.length).filter (covB (tblM t)) := List.mem_filter.2 ⟨enumK_mem.2 h1, covM_cov (by rw [tblM_len]; exact hl)⟩
  rw [h] at h2
  simp at h2
theorem che_bst {t : List (List Int)} (hl : t.length ≤ 8) (c : List Int) : IsBst (keyC c) (fun x => x < 2 ^ t.length ∧ covB (tblM t) x = true) (cheM t c) :=
  bst_ext (bst_bestF (key := keyC c) (che_ne hl) ((enumK_srt (by omega)).filter _)) fun x => by rw [List.mem_filter, enumK_mem]
theorem cheD_eq {t : List (List Int)} (hl : t.length ≤ 8) (c : List Int) : cheD t c = some (cheM t c) := by
  obtain ⟨b, h1, h2⟩ := cheD_some hl c
  rw [h1, bst_one h2 (che_bst hl c)]
theorem btw_1000 {c : List Int} (h : allBtw c 1 99 = true) : ∀ x ∈ c, 0 ≤ x ∧ x ≤ 1000 := fun x hx => by
  have := btw_true.1 (List.all_eq_true.1 h x hx)
  omega
end Tinker
namespace Go.Proofs.Ytmigkbimdjiigaa
open Go.RowKit Tinker

set_option maxRecDepth 100000 in
set_option maxHeartbeats 4000000 in
theorem sChe_any (a b : Option Addr) (ca cb : Nat) (t : List (List Int)) (c : List Int) (w : World) (ht : RowsAt w a t) (hr : IntsAt w b c) (hl : t.length ≤ 1000) (hm : ∀ z ∈ t, z.length ≤ 1000) (hcl : c.length ≤ 1000) :
    Calls Try.prog 33 #[.slice a t.length ca, .slice b c.length cb] w (GivesINE (cheA t c) (cheK t c) (csu t c) w) := by
  have hb0 : Below w.heap.size w (w.alloc (.cells #[.slice b c.length cb] 23)) := (Below.refl _ _).alloc (Nat.le_refl _) _
  have x0 : (w.alloc (.cells #[.slice b c.length cb] 23)).cell? ⟨w.heap.size, 0, none⟩ = some (.slice b c.length cb) := hp_cell (hp_new (w := w) (o := .cells #[.slice b c.length cb] 23) rfl) (j := 0) (by rfl)
  have HV := Lib.hid (sValidate_any a ca t _ (ht.below hb0 (Nat.le_refl _)) hl hm)
  have HAB := Lib.hid (areBetween_any b cb c 1 99 _ (hr.below hb0 (Nat.le_refl _)) (by omega))
  have hM0 : w.heap.size < (w.alloc (.cells #[.slice b c.length cb] 23)).heap.size := by simp
  unfold cheA cheK
  by_cases hv : vsu t = 0
  · by_cases hlen : c.length = t.length
    · cases hab : allBtw c 1 99
      · have hcs : csu t c = 1 := by unfold csu; rw [if_pos hv, if_neg (by rw [hab]; simp)]
        rw [hcs, if_neg (by decide), if_neg (by decide)]
        rw [hab] at HAB
        rw [hv] at HV
        have hne : ((c.length : Int) != (t.length : Int)) = false := by rw [hlen]; simp
        have HB0 := Lib.hid hb0
        clear hv hlen hab hcs ht hr hm hb0 hM0
        go_enter Try.func33, Try.ntmps33
        go_wp2_with fail
        refine HV.out.mono ?_
        rintro e w' ⟨rfl, rfl⟩
        go_wp2_with fail
        refine HAB.out.mono ?_
        rintro e w' ⟨rfl, rfl⟩
        go_wp2_with fail
        go_ret3
        exact ⟨none, 0, rfl, World.ownsRow_nil _ _ _ _, HB0.out⟩
      · have hcs : csu t c = 0 := by unfold csu; rw [if_pos hv, if_pos ⟨hlen, hab⟩]
        rw [hcs, if_pos rfl, if_pos rfl]
        have hcc := btw_1000 hab
        have hl8 := (vsu_ok hv).1
        have HT := Lib.hid (tableOf_any a ca t _ (ht.below hb0 (Nat.le_refl _)) hv)
        have hclt := (che_bst hl8 c).1.1
        have hcm : cheM t c = bestF (cstB c) ((enumK t.length).filter (covB (tblM t))) := rfl
        have HNE := Lib.hid (List.length_pos_iff.2 (che_ne hl8))
        rw [hab] at HAB
        rw [hv] at HV
        have HSV := Lib.hid (tblM_lt hv)
        have HSL := Lib.hid (tblM_len t)
        generalize tblM t = s at *
        have HN := Lib.hid (fun w => kNumbers_any (cheM t c) (lt_K hl8 hclt) w)
        have HSU := Lib.hid (fun w hr => tSum_any b cb c (cheM t c) t.length w hr hlen hl8 hcc hclt)
        have HXL := Lib.hid (show ((enumK t.length).filter (covB s)).length ≤ 2000 from Nat.le_trans (List.length_filter_le _ _) (Nat.le_trans (enumK_len (by omega)) (by omega)))
        have HXV := Lib.hid (show ∀ x ∈ (enumK t.length).filter (covB s), x < 2 ^ t.length from fun x hx => enumK_mem.1 (List.mem_filter.1 hx).1)
        have HF := Lib.hid (fun a' c' (w : World) (hs : MskAt w a' s) => kfind_C (covB s) a' s.length c' t.length (by omega) w (fun m W hm hB => (tCover_any a' c' s m W (hs.below hB (Nat.le_refl _)) (by rw [HSL.out]; exact hl8) HSV.out hm).mono (by rintro e w' ⟨rfl, rfl⟩; exact ⟨rfl, Below.refl _ _⟩)))
        have HMN := Lib.hid (fun a' c' (W : World) hf hM x0 hr => minFunc_any b cb w.heap.size c t.length a' c' ((enumK t.length).filter (covB s)) W hf HXV.out HXL.out HNE.out hM x0 hr hlen hl8 hcc)
        rw [← hcm] at HMN
        have HR := Lib.hid (hr.below hb0 (Nat.le_refl _))
        have hne : ((c.length : Int) != (t.length : Int)) = false := by rw [hlen]; simp
        have HB0 := Lib.hid hb0
        have HM0 := Lib.hid hM0
        generalize (enumK t.length).filter (covB s) = F at *
        generalize hKK : (keyC c (cheM t c) : Int) = K at *
        generalize cheM t c = C at *
        clear hv hlen hab hcs ht hr hm hb0 hM0 hcc hclt hcm hKK hcl hl hl8 HNE
        obtain ⟨W0, hW0⟩ : ∃ W, W = w.alloc (.cells #[.slice b c.length cb] 23) := ⟨_, rfl⟩
        go_enter Try.func33, Try.ntmps33
        go_wp2_with fail
        refine HV.out.mono ?_
        rintro e w' ⟨rfl, rfl⟩
        go_wp2_with fail
        refine HAB.out.mono ?_
        rintro e w' ⟨rfl, rfl⟩
        go_wp2_with fail
        refine HT.out.mono ?_
        rintro e w1 ⟨a1, c1, rfl, hs, hB⟩
        rw [← hW0] at hB x0 HR HB0 HM0
        have HS := Lib.hid hs
        have HB1 := Lib.hid hB
        clear hs hB
        rw [HSL.out] at *
        go_wp2_with fail
        refine (HF.out _ _ _ HS.out).mono ?_
        rintro e w2 ⟨a2, c2, rfl, hms, hB2⟩
        have HMS := Lib.hid hms
        have HB2 := Lib.hid (HB1.out.trans (hB2.mono HB1.out.size))
        clear hms hB2
        go_wp2_with fail
        refine (HMN.out _ _ _ HMS.out (Nat.lt_of_lt_of_le HM0.out HB2.out.size) ((HB2.out.cell (p := ⟨w.heap.size, 0, none⟩) HM0.out).trans x0) (HR.out.below HB2.out (Nat.le_refl _))).mono ?_
        rintro e w3 ⟨rfl, hB3⟩
        have HB3 := Lib.hid (HB2.out.trans (hB3.mono HB2.out.size))
        have x3 := (HB3.out.cell (p := ⟨w.heap.size, 0, none⟩) HM0.out).trans x0
        have HM3 := Lib.hid (Nat.lt_of_lt_of_le HM0.out HB3.out.size)
        have HR3 := Lib.hid (HR.out.below HB3.out (Nat.le_refl _))
        have HBW := Lib.hid (HB0.out.trans (HB3.out.mono HB0.out.size))
        clear hB3 x0 HV HAB HT HF HMN
        go_wp2_with fail
        have hx : Below w3.heap.size w3 w3.drew := (Below.refl _ _).drew
        have HO : Hid True := Lib.hid trivial
        go_region_held3 (fun w' => w'.cell? ⟨w.heap.size, 0, none⟩ = some (.slice b c.length cb)) (first | exact x3 | go_keep) (first
          | (go_at_call 59; refine (HN.out _).mono ?_; rintro e wa ⟨a3, c3, rfl, ho, hBa⟩; replace HO := Lib.hid (own_mono ho hx.size); replace x3 := (hBa.cell (p := ⟨w.heap.size, 0, none⟩) (Nat.lt_of_lt_of_le HM3.out hx.size)).trans x3; replace hx := hx.trans (hBa.mono hx.size); clear hBa ho)
          | (go_at_call 83; refine (HSU.out _ ?_).mono ?_; exact HR3.out.below hx (Nat.le_refl _); rintro e wa ⟨rfl, hBa⟩; (try replace HO := Lib.hid (own_below HO.out hBa (Nat.le_refl _))); replace x3 := (hBa.cell (p := ⟨w.heap.size, 0, none⟩) (Nat.lt_of_lt_of_le HM3.out hx.size)).trans x3; replace hx := hx.trans (hBa.mono hx.size); clear hBa))
        all_goals go_wp2_with fail
        all_goals go_ret3
        all_goals exact ⟨_, _, rfl, own_mono HO.out HBW.out.size, HBW.out.trans (hx.mono HBW.out.size)⟩
    · have hcs : csu t c = 1 := by unfold csu; rw [if_pos hv, if_neg (fun h => hlen h.1)]
      rw [hcs, if_neg (by decide), if_neg (by decide)]
      rw [hv] at HV
      have hne : ((c.length : Int) != (t.length : Int)) = true := by rw [bne_iff_ne]; omega
      have HB0 := Lib.hid hb0
      clear hv hlen hcs ht hr hm hb0 hM0
      go_enter Try.func33, Try.ntmps33
      go_wp2_with fail
      refine HV.out.mono ?_
      rintro e w' ⟨rfl, rfl⟩
      go_wp2_with fail
      go_ret3
      exact ⟨none, 0, rfl, World.ownsRow_nil _ _ _ _, HB0.out⟩
  · have hcs : csu t c = vsu t := by unfold csu; rw [if_neg hv]
    rw [hcs, if_neg hv, if_neg hv]
    have hne : (vsu t != 0) = true := by simpa using hv
    have HB0 := Lib.hid hb0
    clear hv ht hr hm hb0 hM0 hcs
    go_enter Try.func33, Try.ntmps33
    go_wp2_with fail
    refine HV.out.mono ?_
    rintro e w' ⟨rfl, rfl⟩
    go_wp2_with fail
    go_ret3
    exact ⟨none, 0, rfl, World.ownsRow_nil _ _ _ _, HB0.out⟩

end Go.Proofs.Ytmigkbimdjiigaa
