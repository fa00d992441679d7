/- Several texts in one. -/
import Derived.Test.YtmigkbimdjiigaaSuC
import Derived.Test.YtmigkbimdjiigaaRSl
import Derived.Test.YtmigkbimdjiigaaRunC
/- Suites of the code: sets of rows, covers, essential and needless rows: contracts. -/
set_option linter.unusedVariables false
set_option linter.unusedSimpArgs false
namespace Tinker
/-- The error of a suite and a set of rows. -/
def vsr (t : List (List Int)) (rows : List Int) : Int := if vsu t = 0 then (if isSetB rows && allBtw rows 0 ((t.length : Int) - 1) then 0 else 1) else vsu t
theorem vsr_ok {t : List (List Int)} {rows : List Int} (h : vsr t rows = 0) : vsu t = 0 ∧ isSetB rows = true ∧ ∀ x ∈ rows, 0 ≤ x ∧ x < (t.length : Int) := by
  unfold vsr at h
  split at h
  · rename_i h1
    split at h
    · rename_i h2
      rw [Bool.and_eq_true] at h2
      refine ⟨h1, h2.1, fun x hx => ?_⟩
      have := btw_true.1 (List.all_eq_true.1 h2.2 x hx)
      omega
    · contradiction
  · rename_i h1; exact absurd h h1
/-- Whether a row alone meets some goal. -/
def essB (s : List Nat) (r : Nat) : Bool := !covB s (difK (fullM s) (2 ^ r))
def essL (s : List Nat) : List Int := plc ((List.range s.length).map (essB s))
/-- Whether another row can stand for a row. -/
def stdB (s : List Nat) (r o : Nat) : Bool := difK (s.getD r 0) (s.getD o 0) == 0 && (s.getD r 0 != s.getD o 0 || decide (o < r))
def nedB (s : List Nat) (r : Nat) : Bool := (List.range s.length).any (stdB s r)
def nedL (s : List Nat) : List Int := plc ((List.range s.length).map (nedB s))
theorem any_snoc {p : Nat → Bool} {k : Nat} (h : (List.range k).any p = false) (hp : p k = false) : (List.range (k + 1)).any p = false := by
  rw [List.range_succ, List.any_append, h]; simp [hp]
theorem any_hit {p : Nat → Bool} {k n : Nat} (h : k < n) (hp : p k = true) : (List.range n).any p = true :=
  List.any_eq_true.2 ⟨k, List.mem_range.2 h, hp⟩
/-- What the first k of n places are. -/
def boolTo (p : Nat → Bool) (n k : Nat) : List Bool := (List.range k).map p ++ List.replicate (n - k) false
theorem boolTo_set {p : Nat → Bool} {n k : Nat} (h : k < n) : (boolTo p n k).set k (p k) = boolTo p n (k + 1) := by
  unfold boolTo
  rw [List.set_append_right _ _ (by simp), show n - k = (n - (k + 1)) + 1 by omega, List.replicate_succ, List.range_succ, List.map_append]
  simp
theorem boolTo_end (p : Nat → Bool) (n : Nat) : boolTo p n n = (List.range n).map p := by simp [boolTo]
theorem boolTo_len {p : Nat → Bool} {n k : Nat} (h : k ≤ n) : (boolTo p n k).length = n := by simp [boolTo]; omega
end Tinker
namespace Go.Proofs.Ytmigkbimdjiigaa
open Go.RowKit Tinker

theorem GivesInts.withE {zs : List Int} {c : Int} {w w1 : World} {a : Option Addr} {n cap : Nat} (h : GivesInts zs w (.returned (.slice a n cap)) w1) : GivesIntsE zs c w (.returned (.tuple #[.slice a n cap, .int .i64 c])) w1 := by
  obtain ⟨a', c', he, ho, hB⟩ := h
  injection he with he
  injection he with h1 h2 h3
  subst h1 h2 h3
  exact ⟨_, _, rfl, ho, hB⟩

set_option maxRecDepth 100000 in
set_option maxHeartbeats 1000000 in
theorem sVset_any (a b : Option Addr) (ca cb : Nat) (t : List (List Int)) (rows : List Int) (w : World) (ht : RowsAt w a t) (hr : IntsAt w b rows) (hl : t.length ≤ 1000) (hm : ∀ z ∈ t, z.length ≤ 1000) (hrl : rows.length ≤ 1000) :
    Calls Try.prog 61 #[.slice a t.length ca, .slice b rows.length cb] w fun e w' => e = .returned (.int .i64 (vsr t rows)) ∧ Below w.heap.size w w' := by
  have HV := Lib.hid (sValidate_any a ca t w ht hl hm)
  have HS := Lib.hid (kIsSet_any b cb rows w hr hrl)
  have HB := Lib.hid (fun w hr => areBetween_any b cb rows 0 ((t.length : Int) - 1) w hr (by omega))
  have HR := Lib.hid hr
  have hwi : IntKind.i64.wrap ((t.length : Int) - 1) = (t.length : Int) - 1 := IntWalk.i64_in _ (by omega)
  unfold vsr
  clear ht hm hr
  by_cases hv : vsu t = 0
  · rw [if_pos hv]
    rw [hv] at HV
    clear hv
    cases hs : isSetB rows
    · rw [hs] at HS
      rw [Bool.false_and, if_neg (by decide)]
      clear hs
      go_enter Try.func61, Try.ntmps61
      go_wp2_with fail
      refine HV.out.mono ?_
      rintro e w' ⟨rfl, rfl⟩
      go_wp2_with fail
      refine HS.out.mono ?_
      rintro e w' ⟨rfl, hB⟩
      go_wp2_with fail
      go_ret
      exact ⟨rfl, hB⟩
    · rw [hs] at HS
      rw [Bool.true_and]
      clear hs
      cases hb : allBtw rows 0 ((t.length : Int) - 1)
      · rw [hb] at HB
        rw [if_neg (by decide)]
        clear hb
        go_enter Try.func61, Try.ntmps61
        go_wp2_with fail
        refine HV.out.mono ?_
        rintro e w' ⟨rfl, rfl⟩
        go_wp2_with fail
        refine HS.out.mono ?_
        rintro e w' ⟨rfl, hB⟩
        go_wp2_with fail
        refine (HB.out _ (HR.out.below hB (Nat.le_refl _))).mono ?_
        rintro e w' ⟨rfl, rfl⟩
        go_wp2_with fail
        go_ret
        exact ⟨rfl, hB⟩
      · rw [hb] at HB
        rw [if_pos rfl]
        clear hb
        go_enter Try.func61, Try.ntmps61
        go_wp2_with fail
        refine HV.out.mono ?_
        rintro e w' ⟨rfl, rfl⟩
        go_wp2_with fail
        refine HS.out.mono ?_
        rintro e w' ⟨rfl, hB⟩
        go_wp2_with fail
        refine (HB.out _ (HR.out.below hB (Nat.le_refl _))).mono ?_
        rintro e w' ⟨rfl, rfl⟩
        go_wp2_with fail
        go_ret
        exact ⟨rfl, hB⟩
  · rw [if_neg hv]
    have hne : (vsu t != 0) = true := by simpa using hv
    clear hv
    go_enter Try.func61, Try.ntmps61
    go_wp2_with fail
    refine HV.out.mono ?_
    rintro e w' ⟨rfl, rfl⟩
    go_wp2_with fail
    go_ret
    exact ⟨rfl, Below.refl _ _⟩

set_option maxRecDepth 100000 in
set_option maxHeartbeats 1000000 in
theorem sOpen_any (a : Option Addr) (ca : Nat) (t : List (List Int)) (w : World) (ht : RowsAt w a t) (hl : t.length ≤ 1000) (hm : ∀ z ∈ t, z.length ≤ 1000) :
    Calls Try.prog 19 #[.slice a t.length ca] w (GivesIntsE (if vsu t = 0 then numsK (openM (tblM t)) else []) (vsu t) w) := by
  have HV := Lib.hid (sValidate_any a ca t w ht hl hm)
  by_cases hv : vsu t = 0
  · rw [if_pos hv]
    rw [hv] at HV ⊢
    have HT := Lib.hid (tableOf_any a ca t w ht hv)
    have hsl : (tblM t).length ≤ 8 := by rw [tblM_len]; exact (vsu_ok hv).1
    have hsv := tblM_lt hv
    generalize tblM t = s at *
    have HO := Lib.hid (fun a' c' w hs => tOpen_any a' c' s w hs hsl hsv)
    have HN := Lib.hid (fun w => kNumbers_any (openM s) (openM_lt hsv) w)
    clear ht hm hv hsv
    go_enter Try.func19, Try.ntmps19
    go_wp2_with fail
    refine HV.out.mono ?_
    rintro e w' ⟨rfl, rfl⟩
    go_wp2_with fail
    refine HT.out.mono ?_
    rintro e w1 ⟨a1, c1, rfl, hs, hB⟩
    have HS := Lib.hid hs
    clear hs
    go_wp2_with fail
    refine (HO.out _ _ _ HS.out).mono ?_
    rintro e w2 ⟨rfl, rfl⟩
    go_wp2_with fail
    refine (HN.out _).mono ?_
    rintro e w3 h3
    have HG := Lib.hid (h3.wide hB)
    obtain ⟨a3, c3, rfl, -, -⟩ := h3
    clear hB
    go_wp2_with fail
    go_ret2
    exact HG.out.withE
  · rw [if_neg hv]
    have hne : (vsu t != 0) = true := by simpa using hv
    clear hv ht hm
    go_enter Try.func19, Try.ntmps19
    go_wp2_with fail
    refine HV.out.mono ?_
    rintro e w' ⟨rfl, rfl⟩
    go_wp2_with fail
    go_ret2
    exact ⟨none, 0, rfl, World.ownsRow_nil _ _ _ _, Below.refl _ _⟩

set_option maxRecDepth 100000 in
set_option maxHeartbeats 1000000 in
theorem sMet_any (a b : Option Addr) (ca cb : Nat) (t : List (List Int)) (rows : List Int) (w : World) (ht : RowsAt w a t) (hr : IntsAt w b rows) (hl : t.length ≤ 1000) (hm : ∀ z ∈ t, z.length ≤ 1000) (hrl : rows.length ≤ 1000) :
    Calls Try.prog 21 #[.slice a t.length ca, .slice b rows.length cb] w (GivesIntsE (if vsr t rows = 0 then numsK (metM (tblM t) (maskM rows)) else []) (vsr t rows) w) := by
  have HV := Lib.hid (sVset_any a b ca cb t rows w ht hr hl hm hrl)
  by_cases hv : vsr t rows = 0
  · rw [if_pos hv]
    rw [hv] at HV ⊢
    obtain ⟨hv1, hv2, hv3⟩ := vsr_ok hv
    have hl8 := (vsu_ok hv1).1
    have hr10 : ∀ x ∈ rows, 0 ≤ x ∧ x < 10 := fun x hx => by have := hv3 x hx; omega
    have HR := Lib.hid hr
    have HTT := Lib.hid ht
    have HT := Lib.hid (fun w ht => tableOf_any a ca t w ht hv1)
    have HM := Lib.hid (fun w hr => kMaskOf_any b cb rows w hr hr10 hrl)
    have hsl : (tblM t).length ≤ 8 := by rw [tblM_len]; exact hl8
    have hsv := tblM_lt hv1
    have hmk := maskM_ltK hr10
    generalize tblM t = s at *
    generalize maskM rows = R at *
    have HO := Lib.hid (fun a' c' w hs => tMet_any a' c' s R w hs hsl hsv hmk)
    have HN := Lib.hid (fun w => kNumbers_any (metM s R) (metM_lt hsv _) w)
    clear ht hm hv hsv hr hv1 hv2 hv3 hr10 hl8
    go_enter Try.func21, Try.ntmps21
    go_wp2_with fail
    refine HV.out.mono ?_
    rintro e w0 ⟨rfl, hB0⟩
    go_wp2_with fail
    refine (HT.out _ (HTT.out.below hB0 (Nat.le_refl _))).mono ?_
    rintro e w1 ⟨a1, c1, rfl, hs, hB⟩
    have hB1 := hB0.trans (hB.mono hB0.size)
    have HS := Lib.hid hs
    clear hs hB hB0
    go_wp2_with fail
    refine (HM.out _ (HR.out.below hB1 (Nat.le_refl _))).mono ?_
    rintro e w2 ⟨rfl, rfl⟩
    go_wp2_with fail
    refine (HO.out _ _ _ HS.out).mono ?_
    rintro e w2 ⟨rfl, rfl⟩
    go_wp2_with fail
    refine (HN.out _).mono ?_
    rintro e w3 h3
    have HG := Lib.hid (h3.wide hB1)
    obtain ⟨a3, c3, rfl, -, -⟩ := h3
    clear hB1
    go_wp2_with fail
    go_ret2
    exact HG.out.withE
  · rw [if_neg hv]
    have hne : (vsr t rows != 0) = true := by simpa using hv
    clear hv ht hm hr
    go_enter Try.func21, Try.ntmps21
    go_wp2_with fail
    refine HV.out.mono ?_
    rintro e w' ⟨rfl, hB⟩
    go_wp2_with fail
    go_ret2
    exact ⟨none, 0, rfl, World.ownsRow_nil _ _ _ _, hB⟩

/-- The error of a set of rows that is to be a cover. -/
def chkC (t : List (List Int)) (rows : List Int) : Int := if vsr t rows = 0 then (if covB (tblM t) (maskM rows) then 0 else 7) else vsr t rows
set_option maxRecDepth 100000 in
set_option maxHeartbeats 1000000 in
theorem sCheck_any (a b : Option Addr) (ca cb : Nat) (t : List (List Int)) (rows : List Int) (w : World) (ht : RowsAt w a t) (hr : IntsAt w b rows) (hl : t.length ≤ 1000) (hm : ∀ z ∈ t, z.length ≤ 1000) (hrl : rows.length ≤ 1000) :
    Calls Try.prog 26 #[.slice a t.length ca, .slice b rows.length cb] w fun e w' => e = .returned (.int .i64 (chkC t rows)) ∧ Below w.heap.size w w' := by
  have HV := Lib.hid (sVset_any a b ca cb t rows w ht hr hl hm hrl)
  unfold chkC
  by_cases hv : vsr t rows = 0
  · rw [if_pos hv]
    rw [hv] at HV
    obtain ⟨hv1, hv2, hv3⟩ := vsr_ok hv
    have hl8 := (vsu_ok hv1).1
    have hr10 : ∀ x ∈ rows, 0 ≤ x ∧ x < 10 := fun x hx => by have := hv3 x hx; omega
    have HR := Lib.hid hr
    have HTT := Lib.hid ht
    have HT := Lib.hid (fun w ht => tableOf_any a ca t w ht hv1)
    have HM := Lib.hid (fun w hr => kMaskOf_any b cb rows w hr hr10 hrl)
    have hsl : (tblM t).length ≤ 8 := by rw [tblM_len]; exact hl8
    have hsv := tblM_lt hv1
    have hmk := maskM_ltK hr10
    generalize tblM t = s at *
    generalize maskM rows = R at *
    have HO := Lib.hid (fun a' c' w hs => tCover_any a' c' s R w hs hsl hsv hmk)
    clear ht hm hv hsv hr hv1 hv2 hv3 hr10 hl8
    cases hb : covB s R
    · rw [hb] at HO
      rw [if_neg (by decide)]
      clear hb
      go_enter Try.func26, Try.ntmps26
      go_wp2_with fail
      refine HV.out.mono ?_
      rintro e w0 ⟨rfl, hB0⟩
      go_wp2_with fail
      refine (HT.out _ (HTT.out.below hB0 (Nat.le_refl _))).mono ?_
      rintro e w1 ⟨a1, c1, rfl, hs, hB⟩
      have hB1 := hB0.trans (hB.mono hB0.size)
      have HS := Lib.hid hs
      clear hs hB hB0
      go_wp2_with fail
      refine (HM.out _ (HR.out.below hB1 (Nat.le_refl _))).mono ?_
      rintro e w2 ⟨rfl, rfl⟩
      go_wp2_with fail
      refine (HO.out _ _ _ HS.out).mono ?_
      rintro e w2 ⟨rfl, rfl⟩
      go_wp2_with fail
      go_ret
      exact ⟨rfl, hB1⟩
    · rw [hb] at HO
      rw [if_pos rfl]
      clear hb
      go_enter Try.func26, Try.ntmps26
      go_wp2_with fail
      refine HV.out.mono ?_
      rintro e w0 ⟨rfl, hB0⟩
      go_wp2_with fail
      refine (HT.out _ (HTT.out.below hB0 (Nat.le_refl _))).mono ?_
      rintro e w1 ⟨a1, c1, rfl, hs, hB⟩
      have hB1 := hB0.trans (hB.mono hB0.size)
      have HS := Lib.hid hs
      clear hs hB hB0
      go_wp2_with fail
      refine (HM.out _ (HR.out.below hB1 (Nat.le_refl _))).mono ?_
      rintro e w2 ⟨rfl, rfl⟩
      go_wp2_with fail
      refine (HO.out _ _ _ HS.out).mono ?_
      rintro e w2 ⟨rfl, rfl⟩
      go_wp2_with fail
      go_ret
      exact ⟨rfl, hB1⟩
  · rw [if_neg hv]
    have hne : (vsr t rows != 0) = true := by simpa using hv
    clear hv ht hm hr
    go_enter Try.func26, Try.ntmps26
    go_wp2_with fail
    refine HV.out.mono ?_
    rintro e w' ⟨rfl, hB⟩
    go_wp2_with fail
    go_ret
    exact ⟨rfl, hB⟩

/-- A block of bools. -/
structure BvI (M : Nat) (bs : List Bool) (w W : World) : Prop where
  bm : W.heap[M]? = some (.cells (bv bs) 4 (0, 0))
  hM : w.heap.size ≤ M
  below : Below w.heap.size w W
theorem BvI.low {M : Nat} {bs : List Bool} {w W W' : World} (h : BvI M bs w W) (hb : Below W.heap.size W W') : BvI M bs w W' :=
  ⟨hp_below h.bm hb (hp_lt h.bm), h.hM, h.below.trans (hb.mono h.below.size)⟩
theorem BvI.cell {M : Nat} {bs : List Bool} {w W : World} (h : BvI M bs w W) {k : Nat} (hk : k < bs.length) : ∃ v, W.cell? ⟨M, k, none⟩ = some v :=
  ⟨_, hp_cell h.bm (bv_get bs k hk)⟩
theorem BvI.put {M : Nat} {bs : List Bool} {w W : World} (h : BvI M bs w W) (k : Nat) (x : Bool) : BvI M (bs.set k x) w (W.setCell ⟨M, k, none⟩ (.bool x)) := by
  refine ⟨?_, h.hM, h.below.setCell (p := ⟨M, _, none⟩) h.hM _⟩
  rw [← bv_set]
  exact hp_put h.bm k (.bool x)
theorem BvI.bools {M : Nat} {bs : List Bool} {w W : World} (h : BvI M bs w W) : BoolsAt W M 0 bs := fun j n hj => by
  rw [Nat.zero_add]
  refine hp_cell h.bm ?_
  simpa [bv] using hj
theorem MskAt.off {w : World} {a : Option Addr} {ms : List Nat} (h : MskAt w a ms) {M : Nat} (hM : ∀ b o, a = some ⟨b, o, none⟩ → b ≠ M) (j : Nat) (v : Value) : MskAt (w.setCell ⟨M, j, none⟩ v) a ms := by
  rcases h with h | ⟨b, off, e, hlt, hc⟩
  · exact .inl h
  · refine .inr ⟨b, off, e, by simpa using hlt, fun i n hi => ?_⟩
    have hne := hM b off e
    exact (cell_heap (Below.heap_setCell w ⟨M, j, none⟩ v b (by exact hne)) _).trans (hc i n hi)
end Go.Proofs.Ytmigkbimdjiigaa

/- Suites of the code: essential and needless rows: contracts. -/
set_option linter.unusedVariables false
set_option linter.unusedSimpArgs false
namespace Go.Proofs.Ytmigkbimdjiigaa
open Go.RowKit Tinker

theorem bneNat {a b : Nat} : ((a : Int) != (b : Int)) = (a != b) := by
  rw [Bool.eq_iff_iff, bne_iff_ne, bne_iff_ne]; omega
set_option maxRecDepth 100000 in
set_option maxHeartbeats 2000000 in
theorem tNeed_any (a : Option Addr) (cap : Nat) (s : List Nat) (r : Nat) (w : World) (hs : MskAt w a s) (hl : s.length ≤ 8) (hv : ∀ x ∈ s, x < 1024) (hr : r < s.length) :
    Calls Try.prog 88 #[.slice a s.length cap, .int .i64 r] w fun e w' => e = .returned (.bool (nedB s r)) ∧ w = w' := by
  have HS := Lib.hid hs
  have HV := Lib.hid hv
  obtain ⟨b, off, y, rfl, hlb, hy, hcy⟩ := hs.at_ hr
  have hyd : s.getD r 0 = y := getD_of_get hy
  have hy10 := hv y (mem_of_get hy)
  clear hs hv hy
  unfold nedB
  go_enter Try.func88, Try.ntmps88
  go_wp2_with fail
  go_loop [9] (fun s9 => ∃ k : Nat, k ≤ s.length ∧ s9 = .int .i64 k ∧ (List.range k).any (stdB s r) = false) (fun s9 => s.length - (intOf s9).toNat)
  case atStart => exact ⟨0, Nat.zero_le _, rfl, by simp⟩
  case round =>
    obtain ⟨k, hk, rfl, hall⟩ := hrel
    have HA := Lib.hid hall
    clear hall
    by_cases hlt : k < s.length
    · obtain ⟨b', off', x, e', hlb', hx, h0⟩ := HS.out.at_ hlt
      injection e' with e'
      injection e' with e1 e2
      subst e1 e2
      have hxd : s.getD k 0 = x := getD_of_get hx
      have hx10 := HV.out x (mem_of_get hx)
      have HP := Lib.hid (kIsPart_any y x hy10 hx10 w)
      have HD := Lib.hid (show stdB s r k = (difK y x == 0 && (y != x || decide (k < r))) by unfold stdB; rw [hxd, hyd])
      have hbn := bneNat (a := y) (b := x)
      clear hx hxd
      cases h1 : (difK y x == 0)
      · rw [h1] at HP HD
        have HQ := Lib.hid (any_snoc HA.out (show stdB s r k = false from HD.out))
        clear h1
        go_wp2_with fail
        refine HP.out.mono ?_
        rintro e w' ⟨rfl, rfl⟩
        go_wp2_with fail
        go_round
        case rel => exact ⟨k + 1, by omega, by go_num, HQ.out⟩
        case measure => simp [intOf]; omega
      · rw [h1] at HP HD
        clear h1
        cases h2 : (y != x)
        · rw [h2] at HD hbn
          by_cases h3 : k < r
          · have HQ := Lib.hid (any_hit (p := stdB s r) (n := s.length) hlt (by rw [HD.out, decide_eq_true h3]; rfl))
            have h3i : decide ((k : Int) < (r : Int)) = true := decide_eq_true (by omega)
            have h3n : decide (k < r) = true := decide_eq_true h3
            clear h2 h3 HA
            go_wp2_with fail
            refine HP.out.mono ?_
            rintro e w' ⟨rfl, rfl⟩
            go_wp2_with fail
            go_ret
            exact ⟨ret_bool HQ.out.symm, rfl⟩
          · have HQ := Lib.hid (any_snoc HA.out (show stdB s r k = false by rw [HD.out, decide_eq_false h3]; rfl))
            have h3i : decide ((k : Int) < (r : Int)) = false := decide_eq_false (by omega)
            have h3n : decide (k < r) = false := decide_eq_false h3
            clear h2 h3
            go_wp2_with fail
            refine HP.out.mono ?_
            rintro e w' ⟨rfl, rfl⟩
            go_wp2_with fail
            go_round
            case rel => exact ⟨k + 1, by omega, by go_num, HQ.out⟩
            case measure => simp [intOf]; omega
        · rw [h2] at HD hbn
          have HQ := Lib.hid (any_hit (p := stdB s r) (n := s.length) hlt (by rw [HD.out]; rfl))
          clear h2 HA
          go_wp2_with fail
          refine HP.out.mono ?_
          rintro e w' ⟨rfl, rfl⟩
          go_wp2_with fail
          go_ret
          exact ⟨ret_bool HQ.out.symm, rfl⟩
    · obtain rfl : k = s.length := by omega
      go_wp2_with fail
      go_ret
      exact ⟨ret_bool HA.out.symm, rfl⟩

set_option maxRecDepth 100000 in
set_option maxHeartbeats 2000000 in
theorem sEssential_any (a : Option Addr) (ca : Nat) (t : List (List Int)) (w : World) (ht : RowsAt w a t) (hl : t.length ≤ 1000) (hm : ∀ z ∈ t, z.length ≤ 1000) :
    Calls Try.prog 29 #[.slice a t.length ca] w (GivesIntsE (if vsu t = 0 then essL (tblM t) else []) (vsu t) w) := by
  have HV := Lib.hid (sValidate_any a ca t w ht hl hm)
  by_cases hv : vsu t = 0
  · rw [if_pos hv]
    rw [hv] at HV ⊢
    have HT := Lib.hid (tableOf_any a ca t w ht hv)
    have hsl : (tblM t).length ≤ 8 := by rw [tblM_len]; exact (vsu_ok hv).1
    have HSV := Lib.hid (tblM_lt hv)
    generalize tblM t = s at *
    unfold essL
    clear ht hm hv
    have hmk := mkBools s.length hsl
    go_enter Try.func29, Try.ntmps29
    go_wp2_with fail
    refine HV.out.mono ?_
    rintro e w' ⟨rfl, rfl⟩
    go_wp2_with fail
    refine HT.out.mono ?_
    rintro e w1 ⟨a1, c1, rfl, hs, hB⟩
    have HS := Lib.hid hs
    have HB := Lib.hid hB
    clear hs hB
    go_wp2_with fail
    go_loopw [20] (fun s20 wr => ∃ k : Nat, k ≤ s.length ∧ s20 = .int .i64 k ∧ BvI w1.heap.size (boolTo (essB s) s.length k) w1 wr) (fun s20 _ => s.length - (intOf s20).toNat)
    case atStart =>
      refine ⟨0, Nat.zero_le _, rfl, ?_⟩
      have e0 : boolTo (essB s) s.length 0 = List.replicate s.length false := by simp [boolTo]
      rw [e0]
      exact ⟨hp_new rfl, Nat.le_refl _, (Below.refl _ _).alloc (Nat.le_refl _) _⟩
    case round =>
      obtain ⟨k, hk, rfl, hI⟩ := hrel
      by_cases hlt : k < s.length
      · have HS1 := Lib.hid (HS.out.below hI.below (Nat.le_refl _))
        have HR := Lib.hid (tRows_any a1 c1 s wr hsl)
        have HW := Lib.hid (kWithout_any (fullM s) k (by have := full_lt hsl; omega) (by omega) wr)
        have HC := Lib.hid (tCover_any a1 c1 s (difK (fullM s) (2 ^ k)) wr HS1.out hsl HSV.out (difK_lt (by have := full_lt hsl; omega)))
        have HE := Lib.hid (show essB s k = !covB s (difK (fullM s) (2 ^ k)) from rfl)
        generalize covB s (difK (fullM s) (2 ^ k)) = C at HC HE
        generalize difK (fullM s) (2 ^ k) = D at HC HW
        generalize fullM s = F at HR HW
        obtain ⟨v, m1⟩ := hI.cell (show k < (boolTo (essB s) s.length k).length by rw [boolTo_len (by omega)]; exact hlt)
        have m2 := hp_free hI.bm k
        have HP := Lib.hid (hI.put k (essB s k))
        rw [boolTo_set hlt] at HP
        clear hI
        rw [HE.out] at HP
        clear HE
        go_wp2_with fail
        refine HR.out.mono ?_
        rintro e w' ⟨rfl, rfl⟩
        go_wp2_with fail
        refine HW.out.mono ?_
        rintro e w' ⟨rfl, rfl⟩
        go_wp2_with fail
        refine HC.out.mono ?_
        rintro e w' ⟨rfl, rfl⟩
        go_wp2_with fail
        go_roundw
        case rel => exact ⟨k + 1, by omega, by go_num, HP.out⟩
        case measure => simp [intOf]; omega
      · obtain rfl : k = s.length := by omega
        have hbs := hI.bools
        have hlb := hp_lt hI.bm
        have HPL := Lib.hid (places_any w1.heap.size 0 s.length _ wr hbs hlb (by rw [boolTo_len (Nat.le_refl _)]; omega))
        rw [boolTo_len (Nat.le_refl _), boolTo_end] at HPL
        have HBB := Lib.hid (HB.out.trans (hI.below.mono HB.out.size))
        clear hI hbs
        go_wp2_with fail
        refine HPL.out.mono ?_
        rintro e w3 h3
        have HG := Lib.hid (h3.wide HBB.out)
        obtain ⟨a3, c3, rfl, -, -⟩ := h3
        go_wp2_with fail
        go_ret2
        exact HG.out.withE
  · rw [if_neg hv]
    have hne : (vsu t != 0) = true := by simpa using hv
    clear hv ht hm
    go_enter Try.func29, Try.ntmps29
    go_wp2_with fail
    refine HV.out.mono ?_
    rintro e w' ⟨rfl, rfl⟩
    go_wp2_with fail
    go_ret2
    exact ⟨none, 0, rfl, World.ownsRow_nil _ _ _ _, Below.refl _ _⟩

set_option maxRecDepth 100000 in
set_option maxHeartbeats 2000000 in
theorem sNeedless_any (a : Option Addr) (ca : Nat) (t : List (List Int)) (w : World) (ht : RowsAt w a t) (hl : t.length ≤ 1000) (hm : ∀ z ∈ t, z.length ≤ 1000) :
    Calls Try.prog 37 #[.slice a t.length ca] w (GivesIntsE (if vsu t = 0 then nedL (tblM t) else []) (vsu t) w) := by
  have HV := Lib.hid (sValidate_any a ca t w ht hl hm)
  by_cases hv : vsu t = 0
  · rw [if_pos hv]
    rw [hv] at HV ⊢
    have HT := Lib.hid (tableOf_any a ca t w ht hv)
    have hsl : (tblM t).length ≤ 8 := by rw [tblM_len]; exact (vsu_ok hv).1
    have HSV := Lib.hid (tblM_lt hv)
    generalize tblM t = s at *
    unfold nedL
    clear ht hm hv
    have hmk := mkBools s.length hsl
    go_enter Try.func37, Try.ntmps37
    go_wp2_with fail
    refine HV.out.mono ?_
    rintro e w' ⟨rfl, rfl⟩
    go_wp2_with fail
    refine HT.out.mono ?_
    rintro e w1 ⟨a1, c1, rfl, hs, hB⟩
    have HS := Lib.hid hs
    have HB := Lib.hid hB
    clear hs hB
    go_wp2_with fail
    go_loopw [20] (fun s20 wr => ∃ k : Nat, k ≤ s.length ∧ s20 = .int .i64 k ∧ BvI w1.heap.size (boolTo (nedB s) s.length k) w1 wr) (fun s20 _ => s.length - (intOf s20).toNat)
    case atStart =>
      refine ⟨0, Nat.zero_le _, rfl, ?_⟩
      have e0 : boolTo (nedB s) s.length 0 = List.replicate s.length false := by simp [boolTo]
      rw [e0]
      exact ⟨hp_new rfl, Nat.le_refl _, (Below.refl _ _).alloc (Nat.le_refl _) _⟩
    case round =>
      obtain ⟨k, hk, rfl, hI⟩ := hrel
      by_cases hlt : k < s.length
      · have HS1 := Lib.hid (HS.out.below hI.below (Nat.le_refl _))
        have HC := Lib.hid (tNeed_any a1 c1 s k wr HS1.out hsl HSV.out hlt)
        obtain ⟨v, m1⟩ := hI.cell (show k < (boolTo (nedB s) s.length k).length by rw [boolTo_len (by omega)]; exact hlt)
        have m2 := hp_free hI.bm k
        have HP := Lib.hid (hI.put k (nedB s k))
        rw [boolTo_set hlt] at HP
        clear hI
        generalize nedB s k = C at HC HP
        go_wp2_with fail
        refine HC.out.mono ?_
        rintro e w' ⟨rfl, rfl⟩
        go_wp2_with fail
        go_roundw
        case rel => exact ⟨k + 1, by omega, by go_num, HP.out⟩
        case measure => simp [intOf]; omega
      · obtain rfl : k = s.length := by omega
        have hbs := hI.bools
        have hlb := hp_lt hI.bm
        have HPL := Lib.hid (places_any w1.heap.size 0 s.length _ wr hbs hlb (by rw [boolTo_len (Nat.le_refl _)]; omega))
        rw [boolTo_len (Nat.le_refl _), boolTo_end] at HPL
        have HBB := Lib.hid (HB.out.trans (hI.below.mono HB.out.size))
        clear hI hbs
        go_wp2_with fail
        refine HPL.out.mono ?_
        rintro e w3 h3
        have HG := Lib.hid (h3.wide HBB.out)
        obtain ⟨a3, c3, rfl, -, -⟩ := h3
        go_wp2_with fail
        go_ret2
        exact HG.out.withE
  · rw [if_neg hv]
    have hne : (vsu t != 0) = true := by simpa using hv
    clear hv ht hm
    go_enter Try.func37, Try.ntmps37
    go_wp2_with fail
    refine HV.out.mono ?_
    rintro e w' ⟨rfl, rfl⟩
    go_wp2_with fail
    go_ret2
    exact ⟨none, 0, rfl, World.ownsRow_nil _ _ _ _, Below.refl _ _⟩

end Go.Proofs.Ytmigkbimdjiigaa
