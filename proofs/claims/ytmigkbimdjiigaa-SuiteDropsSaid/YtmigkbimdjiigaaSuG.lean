/- Several texts in one. -/
import Derived.Recover
import Derived.Defers
import Derived.Test.YtmigkbimdjiigaaSuE
import Derived.Laws.ResultCell
/- Suites of the code: the search for the smallest cover: contracts. -/
set_option linter.unusedVariables false
set_option linter.unusedSimpArgs false
namespace Tinker
/-- The sets that the search comes to, of n rows, with the last d still open and so many more. -/
def combT (n : Nat) : Nat → Nat → Nat → List Nat
  | d, 0, S => [S]
  | 0, m + 1, S => []
  | d + 1, m + 1, S => combT n d m (S ||| 2 ^ (n - (d + 1))) ++ combT n d (m + 1) S
theorem combT_step {n k m S : Nat} (h : k < n) : combT n (n - k) (m + 1) S = combT n (n - (k + 1)) m (S ||| 2 ^ k) ++ combT n (n - (k + 1)) (m + 1) S := by
  obtain ⟨d, hd⟩ : ∃ d, n - k = d + 1 := ⟨n - k - 1, by omega⟩
  rw [hd, show n - (k + 1) = d by omega, combT, show n - (d + 1) = k by omega]
theorem combT_zero {n m S : Nat} : combT n (n - n) (m + 1) S = [] := by rw [Nat.sub_self, combT]
end Tinker
namespace Go.Proofs.Ytmigkbimdjiigaa
open Go.RowKit Tinker

/-- How the search ends. -/
def SekP (o : Option Nat) (e : Ending) : Prop := match o with
  | none => e = .returned (.tuple #[])
  | some c => e = .panicked [{ v := .iface 51 (.int .u64 (c : Int)), recovered := false }]

set_option maxRecDepth 100000 in
set_option maxHeartbeats 2000000 in
theorem tSeek_any (a : Option Addr) (cap : Nat) (s : List Nat) (w : World) (hs : MskAt w a s) (hl : s.length ≤ 8) (hv : ∀ x ∈ s, x < 1024) :
    ∀ (m S k : Nat), S < 1024 → k ≤ s.length → m ≤ 8 → Calls Try.prog 70 #[.slice a s.length cap, .int .u64 S, .int .i64 k, .int .i64 m] w fun e w' => SekP ((combT s.length (s.length - k) m S).find? (covB s)) e ∧ w = w' := by
  intro m
  induction m with
  | zero =>
    intro S k hS hk _
    have HC := Lib.hid (tCover_any a cap s S w hs hl hv hS)
    have e0 : ((0 : Nat) : Int) = 0 := rfl
    have hcb : combT s.length (s.length - k) 0 S = [S] := by rw [combT]
    rw [hcb, e0]
    clear hs hv hcb e0
    cases hb : covB s S
    · have HF := Lib.hid (show [S].find? (covB s) = none by simp [hb])
      rw [hb] at HC
      rw [HF.out]
      clear hb HF
      go_enter Try.func70, Try.ntmps70
      go_wp2_with fail
      refine HC.out.mono ?_
      rintro e w' ⟨rfl, rfl⟩
      go_wp2_with fail
      exact bodyPost_ret (results_none rfl _ _ _) rfl ⟨rfl, rfl⟩
    · have HF := Lib.hid (show [S].find? (covB s) = some S by simp [hb])
      rw [hb] at HC
      rw [HF.out]
      clear hb HF
      go_enter Try.func70, Try.ntmps70
      go_wp2_with fail
      refine HC.out.mono ?_
      rintro e w' ⟨rfl, rfl⟩
      go_wp2_with fail
      exact ⟨rfl, rfl, rfl⟩
  | succ m ih =>
    intro S k hS hk hm8
    have IH := Lib.hid ih
    have hm0 : (((m + 1 : Nat) : Int) == 0) = false := by rw [beq_eq_false_iff_ne]; omega
    have hms : IntKind.i64.wrap (((m + 1 : Nat) : Int) - 1) = (m : Int) := by rw [show (((m + 1 : Nat) : Int) - 1) = (m : Int) by omega]; exact IntWalk.i64_in _ (by omega)
    obtain ⟨M, hM⟩ : ∃ M : Int, M = ((m + 1 : Nat) : Int) := ⟨_, rfl⟩
    have HT := Lib.hid hs
    have HV := Lib.hid hv
    rw [← hM] at hm0 hms ⊢
    clear hs hv ih hM
    go_enter Try.func70, Try.ntmps70
    go_wp2_with fail
    go_loop [8] (fun s8 => ∃ j : Nat, j ≤ s.length ∧ s8 = .int .i64 j ∧ (combT s.length (s.length - k) (m + 1) S).find? (covB s) = (combT s.length (s.length - j) (m + 1) S).find? (covB s)) (fun s8 => s.length - (intOf s8).toNat)
    case atStart => exact ⟨k, hk, rfl, rfl⟩
    case round =>
      clear hm0
      obtain ⟨j, hj, rfl, hq⟩ := hrel
      have HQ := Lib.hid hq
      clear hq
      by_cases hlt : j < s.length
      · have HW := Lib.hid (kWith_any S j hS (by omega) w)
        have hwj : IntKind.i64.wrap ((j : Int) + 1) = (j : Int) + 1 := IntWalk.i64_in _ (by omega)
        have hx := IH.out (S ||| 2 ^ j) (j + 1) (or_ltK hS (powK (by omega)).1) (by omega) (by omega)
        have ec : (((j + 1 : Nat)) : Int) = (j : Int) + 1 := by omega
        rw [ec] at hx
        have HX := Lib.hid hx
        have HST := Lib.hid (combT_step (m := m) (S := S) hlt)
        clear hx ec
        cases hf : (combT s.length (s.length - (j + 1)) m (S ||| 2 ^ j)).find? (covB s)
        · have HN := Lib.hid (show (combT s.length (s.length - k) (m + 1) S).find? (covB s) = (combT s.length (s.length - (j + 1)) (m + 1) S).find? (covB s) by rw [HQ.out, HST.out, List.find?_append, hf]; rfl)
          rw [hf] at HX
          clear hf HST HQ
          go_wp2_with fail
          refine HW.out.mono ?_
          rintro e w' ⟨rfl, rfl⟩
          go_wp2_with fail
          refine HX.out.mono ?_
          rintro e w' ⟨h1, rfl⟩
          obtain rfl : e = _ := h1
          go_wp2_with fail
          go_round
          case rel => exact ⟨j + 1, by omega, by go_num, HN.out⟩
          case measure => simp [intOf]; omega
        · rename_i c
          have HN := Lib.hid (show (combT s.length (s.length - k) (m + 1) S).find? (covB s) = some c by rw [HQ.out, HST.out, List.find?_append, hf]; rfl)
          rw [hf] at HX
          clear hf HST HQ
          go_wp2_with fail
          refine HW.out.mono ?_
          rintro e w' ⟨rfl, rfl⟩
          go_wp2_with fail
          refine HX.out.mono ?_
          rintro e w' ⟨h1, rfl⟩
          obtain rfl : e = _ := h1
          go_wp2_with fail
          exact ⟨rfl, by rw [HN.out]; rfl, rfl⟩
      · obtain rfl : j = s.length := by omega
        have HN := Lib.hid HQ.out
        rw [combT_zero] at HN
        clear HQ
        go_wp2_with fail
        go_end0
        exact ⟨by rw [HN.out]; rfl, rfl⟩

end Go.Proofs.Ytmigkbimdjiigaa

/- Suites of the code: the smallest cover: contract. -/
set_option linter.unusedVariables false
set_option linter.unusedSimpArgs false
namespace Tinker
/-- The first cover of fewer than k rows. -/
def covF (s : List Nat) (k : Nat) : Option Nat := ((List.range k).flatMap fun m => combT s.length s.length m 0).find? (covB s)
def covM (s : List Nat) : Nat := (covF s (s.length + 1)).getD 0
theorem covF_succ (s : List Nat) (k : Nat) : covF s (k + 1) = (covF s k).or ((combT s.length s.length k 0).find? (covB s)) := by
  unfold covF
  rw [List.range_succ, List.flatMap_append, List.find?_append]
  simp
theorem covF_keep {s : List Nat} {k c : Nat} (h : covF s k = some c) : ∀ d, covF s (k + d) = some c
  | 0 => h
  | d + 1 => by rw [← Nat.add_assoc, covF_succ, covF_keep h d]; rfl
set_option maxRecDepth 100000 in
theorem comb_lt : ∀ n, n < 9 → ∀ m, m < 9 → (combT n n m 0).all (fun x => decide (x < 2 ^ n)) = true := by decide +kernel
set_option maxRecDepth 100000 in
theorem comb_full : ∀ n, n < 9 → combT n n n 0 = [2 ^ n - 1] := by decide +kernel
theorem covF_some {s : List Nat} (hl : s.length ≤ 8) : ∃ c, covF s (s.length + 1) = some c := by
  rw [covF_succ]
  cases covF s s.length with
  | some c => exact ⟨c, rfl⟩
  | none =>
    rw [comb_full _ (by omega)]
    refine ⟨fullM s, ?_⟩
    have : covB s (2 ^ s.length - 1) = true := cov_full s
    simp [this, fullM]
theorem covM_of {s : List Nat} {k c : Nat} (hk : k ≤ s.length) (h : covF s k = none) (hf : (combT s.length s.length k 0).find? (covB s) = some c) : covM s = c := by
  unfold covM
  have h1 : covF s (k + 1) = some c := by rw [covF_succ, h, hf]; rfl
  have h2 := covF_keep h1 (s.length - k)
  rw [show k + 1 + (s.length - k) = s.length + 1 by omega] at h2
  rw [h2]; rfl
theorem covM_mem {s : List Nat} (hl : s.length ≤ 8) : covF s (s.length + 1) = some (covM s) := by
  obtain ⟨c, hc⟩ := covF_some hl
  unfold covM
  rw [hc]; rfl
theorem covM_lt {s : List Nat} (hl : s.length ≤ 8) : covM s < 2 ^ s.length := by
  have h := List.mem_of_find?_eq_some (covM_mem hl)
  obtain ⟨m, hm, hx⟩ := List.mem_flatMap.1 h
  have := List.all_eq_true.1 (comb_lt s.length (by omega) m (by have := List.mem_range.1 hm; omega)) _ hx
  exact of_decide_eq_true this
theorem covM_cov {s : List Nat} (hl : s.length ≤ 8) : covB s (covM s) = true := List.find?_some (covM_mem hl)
theorem lt_K {n x : Nat} (hn : n ≤ 8) (h : x < 2 ^ n) : x < 1024 := by
  have : 2 ^ n ≤ 2 ^ 8 := Nat.pow_le_pow_right (by omega) hn
  omega
end Tinker
namespace Go.Proofs.Ytmigkbimdjiigaa
open Go.RowKit Tinker

set_option maxRecDepth 100000 in
set_option maxHeartbeats 2000000 in
theorem coverD_any (p c : Nat) (hc : c < 1024) (w : World) (v0 : Value) (t0 : TypeId) (hp : w.heap[p]? = some (.cells #[v0] t0 (0, 0))) :
    CallsD Try.prog 69 #[.pointer (some ⟨p, 0, none⟩)] (.panicking [{ v := .iface 51 (.int .u64 (c : Int)), recovered := false }]) w fun e u' w' =>
      e = .returned (.tuple #[]) ∧ u' = .panicking [{ v := .iface 51 (.int .u64 (c : Int)), recovered := true }] ∧ ∃ a k w2, GivesInts (numsK c) w (.returned (.slice a (numsK c).length k)) w2 ∧ w' = w2.setCell ⟨p, 0, none⟩ (.slice a (numsK c).length k) := by
  have hta : ∀ W : World, Sem.run Try.prog (Instr.typeAssert (.iface 51 (.int .u64 (c : Int))) 20 51 true) W = .ok (.tuple #[.int .u64 (c : Int), .bool true]) W := fun W => by kernel_rfl
  have HN := Lib.hid (kNumbers_any c hc w)
  have HP := Lib.hid hp
  clear hp
  refine callsD_of_wpS Try.func69 rfl fun c₀ cs hu => ?_
  apply wpS_seq
  apply wpS_region
  simp [wpOpsS, go_sem, recoverD, hu, Try.ntmps69, Exit.thenS, hta]
  refine wpS_of_wp ?_
  simp only [Array.replicate_succ, Array.replicate_zero, List.push_toArray, List.append_toArray, List.nil_append, List.cons_append, List.setIfInBounds_toArray, List.set_cons_zero, List.set_cons_succ]
  go_wp2_with fail
  refine HN.out.mono ?_
  rintro e w2 h2
  have HG := Lib.hid h2
  obtain ⟨a2, c2, rfl, ho, hB⟩ := h2
  have hp2 := hp_below HP.out hB (hp_lt HP.out)
  have x0 := hp_cell hp2 (j := 0) (by rfl)
  have f0 := hp_free hp2 0
  clear hp2 ho hB hta
  go_wp2_with fail
  exact ⟨rfl, _, rfl, _, results_none rfl _ _ _, rfl, rfl, a2, c2, w2, HG.out, rfl⟩

theorem GivesInts.below {zs : List Int} {w w' : World} {e : Ending} (h : GivesInts zs w e w') : Below w.heap.size w w' := by
  obtain ⟨_, _, _, _, hB⟩ := h
  exact hB
theorem load_ints8 (w : World) (a : Addr) (x : Option Addr) (n k : Nat) (h : w.cell? a = some (.slice x n k)) : (loadVar 23 a).run Try.prog w = .ok (.slice x n k) w := by
  have hu := Try.underlying23
  unfold loadVar
  go_simp
theorem results_cover (tmps : Array Value) (w : World) (p : Nat) (x : Option Addr) (n k : Nat) (u : Value) (hp : tmps.getD 2 undef = .pointer (some ⟨p, 0, none⟩)) (hu : tmps.getD 3 undef = u) (hv : w.cell? ⟨p, 0, none⟩ = some (.slice x n k)) :
    (results Try.f28 tmps).run Try.prog w = .ok (.tuple #[.slice x n k, u]) w := by
  have h1 := load_ints8 w ⟨p, 0, none⟩ x n k hv
  have hp' : tmps[2]?.getD undef = .pointer (some ⟨p, 0, none⟩) := by simpa using hp
  have hu' : tmps[3]?.getD undef = u := by simpa using hu
  have h : Try.f28.results = #[.cell 2 23, .tmp 3] := rfl
  simp only [results, h]
  simp [Sem.run_bind, Result.andThen, hp', hu', asAddr, h1]
theorem own_cut8 {w : World} {base n size : Nat} {e : TypeId} {v : Value} {xs : List Value} (h : w.ownsRow base e size v n xs) {M : Nat} (hM : M < base) (j : Nat) (u : Value) : (w.setCell ⟨M, j, none⟩ u).ownsRow base e size v n xs := by
  refine ⟨h.1, ?_⟩
  rcases h.2 with hn | ⟨g, cap, cur, rfl, hbg, hg, rest⟩
  · exact .inl hn
  · exact .inr ⟨g, cap, cur, rfl, hbg, hp_set hg (p := ⟨M, j, none⟩) (by show g ≠ M; omega) _, rest⟩
/-- What Cover answers. -/
def coverL (t : List (List Int)) : List Int := if vsu t = 0 then numsK (covM (tblM t)) else []
set_option maxRecDepth 100000 in
set_option maxHeartbeats 2000000 in
theorem sCover_any (a : Option Addr) (ca : Nat) (t : List (List Int)) (w : World) (ht : RowsAt w a t) (hl : t.length ≤ 1000) (hm : ∀ z ∈ t, z.length ≤ 1000) :
    Calls Try.prog 28 #[.slice a t.length ca] w (GivesIntsE (coverL t) (vsu t) w) := by
  have hmf : ∀ (fn : Fn) (first cap : Array Value) (w : World), (Instr.makeFunc fn first cap).run Try.prog w = .ok (.func fn first cap) w := fun _ _ _ _ => rfl
  have HT0 := Lib.hid ht
  unfold coverL
  have hal : Below w.heap.size w (w.alloc (.cells #[.slice none 0 0] 23)) := (Below.refl _ _).alloc (Nat.le_refl _) _
  have HV := Lib.hid (sValidate_any a ca t (w.alloc (.cells #[.slice none 0 0] 23)) (ht.below hal (Nat.le_refl _)) hl hm)
  have HA := Lib.hid hal
  clear ht hm hal
  by_cases hv : vsu t = 0
  · rw [if_pos hv]
    rw [hv] at HV ⊢
    have HT := Lib.hid (fun w ht => tableOf_any a ca t w ht hv)
    have hsl : (tblM t).length ≤ 8 := by rw [tblM_len]; exact (vsu_ok hv).1
    have HSV := Lib.hid (tblM_lt hv)
    generalize tblM t = s at *
    have HSK := Lib.hid (fun a' c' w hs m hm => tSeek_any a' c' s w hs hsl HSV.out m 0 0 (by omega) (Nat.zero_le _) hm)
    have hlw : IntKind.i64.wrap ((s.length : Int) + 1) = ((s.length + 1 : Nat) : Int) := by rw [show ((s.length : Int) + 1) = ((s.length + 1 : Nat) : Int) by omega]; exact IntWalk.i64_in _ (by omega)
    clear hv
    go_enter_defers Try.func28, Try.ntmps28
    go_wp2_with fail
    refine HV.out.mono ?_
    rintro e w1 ⟨rfl, rfl⟩
    go_wp2_with fail
    refine (HT.out _ (HT0.out.below HA.out (Nat.le_refl _))).mono ?_
    rintro e w1 ⟨a1, c1, rfl, hs, hB⟩
    have HS := Lib.hid hs
    have HR := Lib.hid (hp_below (hp_new rfl) hB (by simp))
    have HB := Lib.hid (HA.out.trans (hB.mono HA.out.size))
    clear hs hB
    go_wp2_with fail
    go_loop [17] (fun s17 => ∃ k : Nat, k ≤ s.length + 1 ∧ s17 = .int .i64 k ∧ covF s k = none) (fun s17 => s.length + 1 - (intOf s17).toNat)
    case atStart => exact ⟨0, Nat.zero_le _, rfl, rfl⟩
    case round =>
      obtain ⟨k, hk, rfl, hnone⟩ := hrel
      by_cases hlt : k < s.length + 1
      · have hx := HSK.out a1 c1 w1 HS.out k (by omega)
        rw [Nat.sub_zero] at hx
        have e0 : ((0 : Nat) : Int) = 0 := rfl
        rw [e0] at hx
        have HX := Lib.hid hx
        have HNO := Lib.hid hnone
        clear hx e0 hnone
        cases hf : (combT s.length s.length k 0).find? (covB s)
        · have HN := Lib.hid (show covF s (k + 1) = none by rw [covF_succ, HNO.out, hf]; rfl)
          rw [hf] at HX
          clear hf
          go_wp2_with fail
          refine HX.out.mono ?_
          rintro e w' ⟨h1, rfl⟩
          obtain rfl : e = _ := h1
          go_wp2_with fail
          go_round
          case rel => exact ⟨k + 1, by omega, by go_num, HN.out⟩
          case measure => simp [intOf]; omega
        · rename_i c
          have HN := Lib.hid (covM_of (by omega) HNO.out hf)
          have HCL := Lib.hid (covM_lt hsl)
          rw [hf] at HX
          clear hf
          go_wp2_with fail
          refine HX.out.mono ?_
          rintro e w' ⟨h1, rfl⟩
          obtain rfl : e = _ := h1
          refine leaves_cons (f := 69) (args := #[.pointer (some ⟨w.heap.size, 0, none⟩)]) (by simp) (by simp [go_sem]) ?_
          have hc : c < 1024 := by have := HN.out; have h2 := lt_K hsl HCL.out; omega
          refine (coverD_any w.heap.size c hc w1 _ _ HR.out).mono ?_
          rintro e u' w'' ⟨rfl, rfl, a2, k2, w2, hG, rfl⟩
          rw [HN.out]
          have hp2 : w2.heap[w.heap.size]? = _ := hp_below HR.out hG.below (hp_lt HR.out)
          have hfin : (w2.setCell ⟨w.heap.size, 0, none⟩ (.slice a2 (numsK c).length k2)).heap[w.heap.size]? = _ := hp_put hp2 0 _
          have hB3 : Below w.heap.size w w2 := HB.out.trans (hG.below.mono HB.out.size)
          refine ⟨_, results_cover _ _ w.heap.size _ _ _ _ (by rfl) (by rfl) (hp_cell hfin (j := 0) (by rfl)), a2, k2, rfl, ?_, hB3.setCell (p := ⟨w.heap.size, 0, none⟩) (Nat.le_refl _) _⟩
          obtain ⟨a5, k5, he, ho, -⟩ := hG
          injection he with he
          injection he with h1 h2 h3
          subst h1 h3
          exact own_mono (own_cut8 ho (by have := hp_lt HR.out; omega) 0 _) HB.out.size
      · exfalso
        obtain rfl : k = s.length + 1 := by omega
        obtain ⟨c, hc⟩ := covF_some hsl
        rw [hnone] at hc
        cases hc
  · rw [if_neg hv]
    have hne : (vsu t != 0) = true := by simpa using hv
    have x0 : ∀ t0, (w.alloc (.cells #[.slice none 0 0] t0)).cell? ⟨w.heap.size, 0, none⟩ = some (.slice none 0 0) := fun t0 => hp_cell (hp_new rfl) (j := 0) (by rfl)
    have f0 : ∀ t0, (w.alloc (.cells #[.slice none 0 0] t0)).frozen? ⟨w.heap.size, 0, none⟩ = false := fun t0 => hp_free (hp_new rfl) 0
    clear hv
    go_enter_defers Try.func28, Try.ntmps28
    go_wp2_with fail
    refine HV.out.mono ?_
    rintro e w1 ⟨rfl, rfl⟩
    go_wp2_with fail
    exact ⟨_, results_cover _ _ w.heap.size _ _ _ _ (by rfl) (by rfl) (x0 _), none, 0, rfl, World.ownsRow_nil _ _ _ _, HA.out⟩
end Go.Proofs.Ytmigkbimdjiigaa
