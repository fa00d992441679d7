/- Suites of the code: the greatest set of goals that exclude each other: contracts. -/
import Derived.Test.YtmigkbimdjiigaaSuI
set_option linter.unusedVariables false
set_option linter.unusedSimpArgs false
namespace Tinker
/-- The first best one. -/
def bestF (lt : Nat → Nat → Bool) : List Nat → Nat
  | [] => 0
  | x :: r => r.foldl (fun m y => if lt y m then y else m) x
theorem bestF_snoc {lt : Nat → Nat → Bool} {l : List Nat} {k x : Nat} (hk : 1 ≤ k) (h : l[k]? = some x) : bestF lt (l.take (k + 1)) = if lt x (bestF lt (l.take k)) then x else bestF lt (l.take k) := by
  rw [List.take_add_one, h]
  cases l with
  | nil => simp at h
  | cons y r =>
    match k, hk with
    | k + 1, _ =>
      rw [List.take_succ_cons]
      show List.foldl _ y (List.take k r ++ [x]) = _
      rw [List.foldl_append]
      rfl
theorem bestF_one {lt : Nat → Nat → Bool} {l : List Nat} {x : Nat} (h : l[0]? = some x) : bestF lt (l.take 1) = x := by
  cases l with
  | nil => simp at h
  | cons y r => simp at h; simp [bestF, h]
theorem bestF_go {lt : Nat → Nat → Bool} : ∀ (r : List Nat) (x : Nat), r.foldl (fun m y => if lt y m then y else m) x = x ∨ r.foldl (fun m y => if lt y m then y else m) x ∈ r
  | [], x => .inl rfl
  | y :: r, x => by
    rw [List.foldl_cons]
    rcases bestF_go (lt := lt) r (if lt y x then y else x) with h | h
    · rw [h]
      cases h2 : lt y x
      · exact .inl rfl
      · exact .inr (by simp)
    · exact .inr (List.mem_cons_of_mem _ h)
theorem bestF_mem {lt : Nat → Nat → Bool} : ∀ {l : List Nat}, l ≠ [] → bestF lt l ∈ l
  | [], h => absurd rfl h
  | x :: r, _ => by
    show r.foldl _ x ∈ _
    rcases bestF_go (lt := lt) r x with h | h
    · rw [h]; simp
    · exact List.mem_cons_of_mem _ h
/-- The order of sets by size, the greatest first. -/
def grtB (y m : Nat) : Bool := decide (szK m < szK y)
def excM (s : List Nat) (n : Nat) : Nat := bestF grtB ((enumK n).filter (excB s))
theorem exc_zero (s : List Nat) : excB s 0 = true := by
  unfold excB
  rw [Bool.and_eq_true, beq_iff_eq, difK_zero]
  refine ⟨fun i h => (by rw [Nat.zero_testBit] at h; cases h), ?_⟩
  rw [Bool.not_eq_true', List.any_eq_false]
  intro x _
  unfold twoB
  rw [Nat.and_zero, szK_zero]
  decide
theorem exc_ne (s : List Nat) (n : Nat) : (enumK n).filter (excB s) ≠ [] := by
  intro h
  have : 0 ∈ (enumK n).filter (excB s) := List.mem_filter.2 ⟨by simp [enumK], exc_zero s⟩
  rw [h] at this
  simp at this
theorem tlK_lt {n : Nat} (hn : n ≤ 10) : ∀ (d m : Nat), d ≤ n → m < 1024 → ∀ x ∈ tlK n d m, x < 1024
  | 0, _, _, _ => fun x hx => by simp [tlK] at hx
  | d + 1, m, hd, hm => fun x hx => by
    have hm2 : m ||| 2 ^ (n - (d + 1)) < 1024 := or_ltK hm (powK (by omega)).1
    rw [tlK, List.mem_append, List.mem_cons] at hx
    rcases hx with (h | h) | h
    · subst h; exact hm2
    · exact tlK_lt hn d _ (by omega) hm2 x h
    · exact tlK_lt hn d m (by omega) hm x h
theorem enumK_lt {n : Nat} (hn : n ≤ 10) : ∀ x ∈ enumK n, x < 1024 := fun x hx => by
  unfold enumK at hx
  rcases List.mem_cons.1 hx with h | h
  · subst h; omega
  · exact tlK_lt hn n 0 (Nat.le_refl _) (by omega) x h
theorem enumK_len {n : Nat} (hn : n ≤ 10) : (enumK n).length ≤ 1024 := by
  unfold enumK
  rw [List.length_cons, tlK_len]
  have h2 : 2 ^ n ≤ 2 ^ 10 := Nat.pow_le_pow_right (by omega) hn
  have := Nat.one_le_two_pow (n := n)
  omega
theorem excM_lt {s : List Nat} {n : Nat} (hn : n ≤ 10) : excM s n < 1024 := enumK_lt hn _ (List.mem_filter.1 (bestF_mem (exc_ne s n))).1
/-- The sign of a comparison. -/
def sgn8 (a b : Int) : Int := if a < b then -1 else if b < a then 1 else 0
end Tinker
namespace Go.Proofs.Ytmigkbimdjiigaa
open Go.RowKit Tinker

set_option maxRecDepth 100000 in
set_option maxHeartbeats 1000000 in
theorem cmpI8_any (a b : Int) (w : World) : Calls Try.prog 79 #[.int .i64 a, .int .i64 b] w fun e w' => e = .returned (.int .i64 (sgn8 a b)) ∧ w = w' := by
  have HN := Lib.hid (fun (n : Int) (w : World) => show Calls Try.prog 115 #[.int .i64 n] w fun e w' => e = .returned (.bool false) ∧ w = w' from by
    have hn : (n != n) = false := by simp
    go_enter Try.func115, Try.ntmps115
    go_wp2_with fail
    go_ret
    exact ⟨rfl, rfl⟩)
  unfold sgn8
  by_cases h1 : a < b
  · rw [if_pos h1]
    have hd : decide (a < b) = true := by simpa using h1
    go_enter Try.func79, Try.ntmps79
    go_wp2_with fail
    refine (HN.out _ _).mono ?_
    rintro e w' ⟨rfl, rfl⟩
    go_wp2_with fail
    refine (HN.out _ _).mono ?_
    rintro e w' ⟨rfl, rfl⟩
    go_wp2_with fail
    go_ret
    exact ⟨rfl, rfl⟩
  · rw [if_neg h1]
    have hd : decide (a < b) = false := by simpa using h1
    by_cases h2 : b < a
    · rw [if_pos h2]
      have hd2 : decide (b < a) = true := by simpa using h2
      go_enter Try.func79, Try.ntmps79
      go_wp2_with fail
      refine (HN.out _ _).mono ?_
      rintro e w' ⟨rfl, rfl⟩
      go_wp2_with fail
      refine (HN.out _ _).mono ?_
      rintro e w' ⟨rfl, rfl⟩
      go_wp2_with fail
      go_ret
      exact ⟨rfl, rfl⟩
    · rw [if_neg h2]
      have hd2 : decide (b < a) = false := by simpa using h2
      go_enter Try.func79, Try.ntmps79
      go_wp2_with fail
      refine (HN.out _ _).mono ?_
      rintro e w' ⟨rfl, rfl⟩
      go_wp2_with fail
      refine (HN.out _ _).mono ?_
      rintro e w' ⟨rfl, rfl⟩
      go_wp2_with fail
      go_ret
      exact ⟨rfl, rfl⟩
set_option maxRecDepth 100000 in
set_option maxHeartbeats 1000000 in
theorem exc1_any (x y : Nat) (hx : x < 1024) (hy : y < 1024) (w : World) : Calls Try.prog 78 #[.int .u64 x, .int .u64 y] w fun e w' => e = .returned (.int .i64 (sgn8 (szK x) (szK y))) ∧ w = w' := by
  have H1 := Lib.hid (kSize_any x hx w)
  have H2 := Lib.hid (kSize_any y hy w)
  have H3 := Lib.hid (cmpI8_any (szK x) (szK y) w)
  generalize sgn8 (szK x) (szK y) = R at H3 ⊢
  generalize (szK x : Int) = A at H1 H3
  generalize (szK y : Int) = B at H2 H3
  go_enter Try.func78, Try.ntmps78
  go_wp2_with fail
  refine H1.out.mono ?_
  rintro e w' ⟨rfl, rfl⟩
  go_wp2_with fail
  refine H2.out.mono ?_
  rintro e w' ⟨rfl, rfl⟩
  go_wp2_with fail
  refine H3.out.mono ?_
  rintro e w' ⟨rfl, rfl⟩
  go_wp2_with fail
  go_ret
  exact ⟨rfl, rfl⟩
set_option maxRecDepth 100000 in
set_option maxHeartbeats 1000000 in
theorem maxFunc_any (a : Option Addr) (cap : Nat) (ms : List Nat) (w : World) (hf : MskAt w a ms) (hv : ∀ x ∈ ms, x < 1024) (hl : ms.length ≤ 2000) (hp : 0 < ms.length) :
    Calls Try.prog 75 #[.slice a ms.length cap, .func (.func 78) #[] #[]] w fun e w' => e = .returned (.int .u64 (bestF grtB ms)) ∧ w = w' := by
  obtain ⟨b, off, x0, rfl, hlb, hx0, c0⟩ := hf.at_ hp
  have h1 : decide ((ms.length : Int) < 1) = false := by simp; omega
  rw [Nat.add_zero] at c0
  have HX0 := Lib.hid hx0
  have HV := Lib.hid hv
  clear hx0 hv
  go_enter Try.func75, Try.ntmps75
  go_wp2_with fail
  go_loop [5, 6] (fun s5 s6 => ∃ k : Nat, 1 ≤ k ∧ k ≤ ms.length ∧ s6 = .int .i64 k ∧ s5 = .int .u64 (bestF grtB (ms.take k))) (fun _ s6 => ms.length - (intOf s6).toNat)
  case atStart => exact ⟨1, Nat.le_refl _, by omega, rfl, by rw [bestF_one HX0.out]⟩
  case round =>
    clear h1 c0
    obtain ⟨k, hk1, hk, rfl, rfl⟩ := hrel
    by_cases hlt : k < ms.length
    · obtain ⟨b', off', x, e', hlb', hx, c0⟩ := hf.at_ hlt
      injection e' with e'
      injection e' with e1 e2
      subst e1 e2
      have hne : ms.take k ≠ [] := fun e => by have h2 := congrArg List.length e; rw [List.length_take, List.length_nil] at h2; omega
      have hmm := HV.out _ (List.take_subset _ _ (bestF_mem (lt := grtB) hne))
      have HC := Lib.hid (exc1_any x (bestF grtB (ms.take k)) (HV.out x (mem_of_get hx)) hmm w)
      have HS := Lib.hid (bestF_snoc (lt := grtB) hk1 hx)
      generalize bestF grtB (ms.take k) = M at HC HS
      clear hx hne hmm
      unfold sgn8 at HC
      unfold grtB at HS
      by_cases hs : szK M < szK x
      · rw [decide_eq_true hs, if_pos rfl] at HS
        rw [if_neg (show ¬ ((szK x : Int) < (szK M : Int)) by omega), if_pos (show ((szK M : Int) < (szK x : Int)) by omega)] at HC
        clear hs
        go_wp2_with fail
        refine HC.out.mono ?_
        rintro e w' ⟨rfl, rfl⟩
        go_wp2_with fail
        go_round
        case rel => exact ⟨k + 1, by omega, by omega, by go_num, congrArg (fun z : Nat => Value.int .u64 (z : Int)) HS.out.symm⟩
        case measure => simp [intOf]; omega
      · rw [decide_eq_false hs, if_neg (by decide)] at HS
        generalize hq : (if (szK x : Int) < (szK M : Int) then (-1 : Int) else if (szK M : Int) < (szK x : Int) then 1 else 0) = q at HC
        have hq0 : decide (0 < q) = false := by
          rw [← hq]
          split
          · decide
          · rw [if_neg (by omega)]; decide
        clear hs hq
        go_wp2_with fail
        refine HC.out.mono ?_
        rintro e w' ⟨rfl, rfl⟩
        go_wp2_with fail
        go_round
        case rel => exact ⟨k + 1, by omega, by omega, by go_num, congrArg (fun z : Nat => Value.int .u64 (z : Int)) HS.out.symm⟩
        case measure => simp [intOf]; omega
    · obtain rfl : k = ms.length := by omega
      rw [List.take_length]
      go_wp2_with fail
      go_ret
      exact ⟨rfl, rfl⟩

/-- What Excluding answers. -/
def exclL (t : List (List Int)) : List Int := if vsu t = 0 then numsK (excM (tblM t) (goalsN t)) else []
set_option maxRecDepth 100000 in
set_option maxHeartbeats 2000000 in
theorem sExcl_any (a : Option Addr) (ca : Nat) (t : List (List Int)) (w : World) (ht : RowsAt w a t) (hl : t.length ≤ 1000) (hm : ∀ z ∈ t, z.length ≤ 1000) :
    Calls Try.prog 32 #[.slice a t.length ca] w (GivesIntsE (exclL t) (vsu t) w) := by
  have HV := Lib.hid (sValidate_any a ca t w ht hl hm)
  unfold exclL
  by_cases hv : vsu t = 0
  · rw [if_pos hv]
    rw [hv] at HV ⊢
    have HG := Lib.hid (sGoals_any a ca t w ht)
    have HT := Lib.hid (tableOf_any a ca t w ht hv)
    have hg10 := (vsu_ok hv).2.1
    have hsl : (tblM t).length ≤ 8 := by rw [tblM_len]; exact (vsu_ok hv).1
    have HSV := Lib.hid (tblM_lt hv)
    generalize tblM t = s at *
    generalize goalsN t = G at *
    have HN := Lib.hid (fun w => kNumbers_any (excM s G) (excM_lt hg10) w)
    have HXL := Lib.hid (show ((enumK G).filter (excB s)).length ≤ 2000 from Nat.le_trans (List.length_filter_le _ _) (Nat.le_trans (enumK_len hg10) (by omega)))
    have HXP := Lib.hid (List.length_pos_iff.2 (exc_ne s G))
    have HXV := Lib.hid (show ∀ x ∈ (enumK G).filter (excB s), x < 1024 from fun x hx => enumK_lt hg10 x (List.mem_filter.1 hx).1)
    have HF := Lib.hid (fun a' c' (w : World) (hs : MskAt w a' s) => kfind_X (excB s) a' s.length c' G hg10 w (fun m W hm hB => tExcl_any a' c' s m W (hs.below hB (Nat.le_refl _)) hsl HSV.out hm))
    have HMX := Lib.hid (fun a' c' (w : World) hf => maxFunc_any a' c' ((enumK G).filter (excB s)) w hf HXV.out HXL.out HXP.out)
    rw [show bestF grtB ((enumK G).filter (excB s)) = excM s G from rfl] at HMX
    generalize (enumK G).filter (excB s) = F at *
    clear ht hm hv
    go_enter Try.func32, Try.ntmps32
    go_wp2_with fail
    refine HV.out.mono ?_
    rintro e w' ⟨rfl, rfl⟩
    go_wp2_with fail
    refine HG.out.mono ?_
    rintro e w' ⟨rfl, rfl⟩
    go_wp2_with fail
    refine HT.out.mono ?_
    rintro e w1 ⟨a1, c1, rfl, hs, hB⟩
    have HS := Lib.hid hs
    clear hs
    go_wp2_with fail
    refine (HF.out _ _ _ HS.out).mono ?_
    rintro e w2 ⟨a2, c2, rfl, hms, hB2⟩
    have HMS := Lib.hid hms
    have hB1 := hB.trans (hB2.mono hB.size)
    clear hms hB hB2
    go_wp2_with fail
    refine (HMX.out _ _ _ HMS.out).mono ?_
    rintro e w3 ⟨rfl, rfl⟩
    go_wp2_with fail
    refine (HN.out _).mono ?_
    rintro e w3 h3
    have HGI := Lib.hid (h3.wide hB1)
    obtain ⟨a3, c3, rfl, -, -⟩ := h3
    clear hB1
    go_wp2_with fail
    go_ret2
    exact HGI.out.withE
  · rw [if_neg hv]
    have hne : (vsu t != 0) = true := by simpa using hv
    clear hv ht hm
    go_enter Try.func32, Try.ntmps32
    go_wp2_with fail
    refine HV.out.mono ?_
    rintro e w' ⟨rfl, rfl⟩
    go_wp2_with fail
    go_ret2
    exact ⟨none, 0, rfl, World.ownsRow_nil _ _ _ _, Below.refl _ _⟩

end Go.Proofs.Ytmigkbimdjiigaa
