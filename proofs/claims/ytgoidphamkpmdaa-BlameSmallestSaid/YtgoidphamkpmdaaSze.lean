/- Sizes of masks: contracts. -/
import Derived.Test.YtgoidphamkpmdaaBlI
set_option linter.unusedVariables false
set_option linter.unusedSimpArgs false
namespace Go.Proofs.Ytgoidphamkpmdaa
open Go.RowKit Tinker

/-- How many bits a number has, as the library counts them. -/
def ocX (m : Int) : Int :=
  let x1 := IntKind.u64.wrap (bits BinOp.and IntKind.u64 (m / 2) 6148914691236517205 + bits BinOp.and IntKind.u64 m 6148914691236517205)
  let x2 := IntKind.u64.wrap (bits BinOp.and IntKind.u64 (x1 / 4) 3689348814741910323 + bits BinOp.and IntKind.u64 x1 3689348814741910323)
  let x3 := bits BinOp.and IntKind.u64 (IntKind.u64.wrap (x2 / 16 + x2)) 1085102592571150095
  let x4 := IntKind.u64.wrap (x3 + x3 / 256)
  let x5 := IntKind.u64.wrap (x4 + x4 / 65536)
  let x6 := IntKind.u64.wrap (x5 + x5 / 4294967296)
  bits BinOp.and IntKind.i64 (wrap64 x6) 127
set_option maxRecDepth 100000 in
theorem ocX_all : ∀ m, m < 256 → ocX (m : Nat) = ((numsM m).length : Int) := by decide +kernel

set_option maxRecDepth 100000 in
set_option maxHeartbeats 2000000 in
theorem ones64_any (m : Nat) (hm : m < 256) (w : World) :
    Calls Try.prog 163 #[.int .u64 m] w fun e w' => e = .returned (.int .i64 (numsM m).length) ∧ w = w' := by
  go_enter Try.func163, Try.ntmps163
  go_wp2_with fail
  go_ret
  exact ⟨congrArg (fun x => Ending.returned (Value.int .i64 x)) (ocX_all m hm), rfl⟩

set_option maxRecDepth 100000 in
set_option maxHeartbeats 1000000 in
theorem size_mask (m : Nat) (hm : m < 256) (w : World) :
    Calls Try.prog 77 #[.int .u64 m] w fun e w' => e = .returned (.int .i64 (numsM m).length) ∧ w = w' := by
  have H1 := Lib.hid (show Calls Try.prog 133 #[.int .u64 m] w fun e w' => e = .returned (.int .i64 (numsM m).length) ∧ w = w' from by
    have H0 := Lib.hid (ones64_any m hm w)
    generalize ((numsM m).length : Int) = R at H0 ⊢
    go_enter Try.func133, Try.ntmps133
    go_wp2_with fail
    refine H0.out.mono ?_
    rintro e w' ⟨rfl, rfl⟩
    go_wp2_with fail
    go_ret
    exact ⟨rfl, rfl⟩)
  generalize ((numsM m).length : Int) = R at H1 ⊢
  go_enter Try.func77, Try.ntmps77
  go_wp2_with fail
  refine H1.out.mono ?_
  rintro e w' ⟨rfl, rfl⟩
  go_wp2_with fail
  go_ret
  exact ⟨rfl, rfl⟩

/-- The sign of a comparison. -/
def sgn (a b : Int) : Int := if a < b then -1 else if b < a then 1 else 0
set_option maxRecDepth 100000 in
set_option maxHeartbeats 1000000 in
theorem compare_ints (a b : Int) (w : World) : Calls Try.prog 132 #[.int .i64 a, .int .i64 b] w fun e w' => e = .returned (.int .i64 (sgn a b)) ∧ w = w' := by
  have HN := Lib.hid (fun (n : Int) (w : World) => show Calls Try.prog 161 #[.int .i64 n] w fun e w' => e = .returned (.bool false) ∧ w = w' from by
    have hn : (n != n) = false := by simp
    go_enter Try.func161, Try.ntmps161
    go_wp2_with fail
    go_ret
    exact ⟨rfl, rfl⟩)
  unfold sgn
  by_cases h1 : a < b
  · rw [if_pos h1]
    have hd : decide (a < b) = true := by simpa using h1
    go_enter Try.func132, Try.ntmps132
    go_wp2_with fail
    refine (HN.out _ _).mono ?_
    rintro e w' ⟨rfl, rfl⟩
    go_wp2_with fail
    refine (HN.out _ _).mono ?_
    rintro e w' ⟨rfl, rfl⟩
    go_wp2_with fail
    go_ret
    exact ⟨rfl, rfl⟩
  · rw [if_neg h1]
    have hd : decide (a < b) = false := by simpa using h1
    by_cases h2 : b < a
    · rw [if_pos h2]
      have hd2 : decide (b < a) = true := by simpa using h2
      go_enter Try.func132, Try.ntmps132
      go_wp2_with fail
      refine (HN.out _ _).mono ?_
      rintro e w' ⟨rfl, rfl⟩
      go_wp2_with fail
      refine (HN.out _ _).mono ?_
      rintro e w' ⟨rfl, rfl⟩
      go_wp2_with fail
      go_ret
      exact ⟨rfl, rfl⟩
    · rw [if_neg h2]
      have hd2 : decide (b < a) = false := by simpa using h2
      go_enter Try.func132, Try.ntmps132
      go_wp2_with fail
      refine (HN.out _ _).mono ?_
      rintro e w' ⟨rfl, rfl⟩
      go_wp2_with fail
      refine (HN.out _ _).mono ?_
      rintro e w' ⟨rfl, rfl⟩
      go_wp2_with fail
      go_ret
      exact ⟨rfl, rfl⟩

/-- The size of a set. -/
def szM (m : Nat) : Nat := (numsM m).length
set_option maxRecDepth 100000 in
set_option maxHeartbeats 1000000 in
theorem clos_first2 (x y : Nat) (hx : x < 256) (hy : y < 256) (w : World) : Calls Try.prog 131 #[.int .u64 x, .int .u64 y] w fun e w' => e = .returned (.int .i64 (sgn (szM x) (szM y))) ∧ w = w' := by
  have H1 := Lib.hid (size_mask x hx w)
  have H2 := Lib.hid (size_mask y hy w)
  have H3 := Lib.hid (compare_ints (szM x) (szM y) w)
  have H4 := Lib.hid (show ((numsM x).length : Int) = (szM x : Int) from rfl)
  have H5 := Lib.hid (show ((numsM y).length : Int) = (szM y : Int) from rfl)
  rw [H4.out] at H1
  rw [H5.out] at H2
  generalize sgn (szM x) (szM y) = R at H3 ⊢
  generalize (szM x : Int) = A at H1 H3
  generalize (szM y : Int) = B at H2 H3
  clear H4 H5
  go_enter Try.func131, Try.ntmps131
  go_wp2_with fail
  refine H1.out.mono ?_
  rintro e w' ⟨rfl, rfl⟩
  go_wp2_with fail
  refine H2.out.mono ?_
  rintro e w' ⟨rfl, rfl⟩
  go_wp2_with fail
  refine H3.out.mono ?_
  rintro e w' ⟨rfl, rfl⟩
  go_wp2_with fail
  go_ret
  exact ⟨rfl, rfl⟩

/-- The first smallest set. -/
def minM : List Nat → Nat
  | [] => 0
  | x :: r => r.foldl (fun m y => if szM y < szM m then y else m) x
theorem minM_snoc {l : List Nat} {k x : Nat} (hk : 1 ≤ k) (h : l[k]? = some x) : minM (l.take (k + 1)) = if szM x < szM (minM (l.take k)) then x else minM (l.take k) := by
  rw [List.take_add_one, h]
  cases l with
  | nil => simp at h
  | cons y r =>
    match k, hk with
    | k + 1, _ =>
      rw [List.take_succ_cons]
      show List.foldl (fun m y => if szM y < szM m then y else m) y (List.take k r ++ [x]) = _
      rw [List.foldl_append]
      rfl
theorem minM_one {l : List Nat} {x : Nat} (h : l[0]? = some x) : minM (l.take 1) = x := by
  cases l with
  | nil => simp at h
  | cons y r => simp at h; simp [minM, h]
theorem minM_mem_go : ∀ (r : List Nat) (x : Nat), r.foldl (fun m y => if szM y < szM m then y else m) x = x ∨ r.foldl (fun m y => if szM y < szM m then y else m) x ∈ r
  | [], x => .inl rfl
  | y :: r, x => by
    rw [List.foldl_cons]
    rcases minM_mem_go r (if szM y < szM x then y else x) with h | h
    · rw [h]
      by_cases h2 : szM y < szM x
      · rw [if_pos h2]; exact .inr (by simp)
      · rw [if_neg h2]; exact .inl rfl
    · exact .inr (List.mem_cons_of_mem _ h)
theorem minM_mem : ∀ {l : List Nat}, l ≠ [] → minM l ∈ l
  | [], h => absurd rfl h
  | x :: r, _ => by
    show r.foldl _ x ∈ _
    rcases minM_mem_go r x with h | h
    · rw [h]; simp
    · exact List.mem_cons_of_mem _ h

set_option maxRecDepth 100000 in
set_option maxHeartbeats 1000000 in
theorem minFunc_any (a : Option Addr) (cap : Nat) (ms : List Nat) (w : World) (hf : MskAt w a ms) (hv : ∀ x ∈ ms, x < 256) (hl : ms.length ≤ 1000) (hp : 0 < ms.length) :
    Calls Try.prog 130 #[.slice a ms.length cap, .func (.func 131) #[] #[]] w fun e w' => e = .returned (.int .u64 (minM ms)) ∧ w = w' := by
  obtain ⟨b, off, x0, rfl, hlb, hx0, c0⟩ := hf.at_ hp
  have h1 : decide ((ms.length : Int) < 1) = false := by simp; omega
  rw [Nat.add_zero] at c0
  have HX0 := Lib.hid hx0
  have HV := Lib.hid hv
  clear hx0 hv
  go_enter Try.func130, Try.ntmps130
  go_wp2_with fail
  go_loop [5, 6] (fun s5 s6 => ∃ k : Nat, 1 ≤ k ∧ k ≤ ms.length ∧ s6 = .int .i64 k ∧ s5 = .int .u64 (minM (ms.take k))) (fun _ s6 => ms.length - (intOf s6).toNat)
  case atStart => exact ⟨1, Nat.le_refl _, by omega, rfl, by rw [minM_one HX0.out]⟩
  case round =>
    clear h1 c0
    obtain ⟨k, hk1, hk, rfl, rfl⟩ := hrel
    by_cases hlt : k < ms.length
    · obtain ⟨b', off', x, e', hlb', hx, c0⟩ := hf.at_ hlt
      injection e' with e'
      injection e' with e1 e2
      subst e1 e2
      have hne : ms.take k ≠ [] := fun e => by have h2 := congrArg List.length e; rw [List.length_take, List.length_nil] at h2; omega
      have hmm := HV.out _ (List.take_subset _ _ (minM_mem hne))
      have HC := Lib.hid (clos_first2 x (minM (ms.take k)) (HV.out x (mem_of_get hx)) hmm w)
      have HS := Lib.hid (minM_snoc hk1 hx)
      generalize minM (ms.take k) = M at HC HS
      clear hx hne hmm
      unfold sgn at HC
      by_cases hs : szM x < szM M
      · rw [if_pos hs] at HS
        rw [if_pos (show ((szM x : Int) < (szM M : Int)) by omega)] at HC
        clear hs
        go_wp2_with fail
        refine HC.out.mono ?_
        rintro e w' ⟨rfl, rfl⟩
        go_wp2_with fail
        go_round
        case rel => exact ⟨k + 1, by omega, by omega, by go_num, by rw [HS.out]⟩
        case measure => simp [intOf]; omega
      · rw [if_neg hs] at HS
        rw [if_neg (show ¬ ((szM x : Int) < (szM M : Int)) by omega)] at HC
        generalize hq : (if (szM M : Int) < (szM x : Int) then (1 : Int) else 0) = q at HC
        have hq0 : decide (q < 0) = false := by rw [← hq]; split <;> decide
        clear hs hq
        go_wp2_with fail
        refine HC.out.mono ?_
        rintro e w' ⟨rfl, rfl⟩
        go_wp2_with fail
        go_round
        case rel => exact ⟨k + 1, by omega, by omega, by go_num, by rw [HS.out]⟩
        case measure => simp [intOf]; omega
    · obtain rfl : k = ms.length := by omega
      rw [List.take_length]
      go_wp2_with fail
      go_ret
      exact ⟨rfl, rfl⟩

end Go.Proofs.Ytgoidphamkpmdaa
