/- Suites: the wait of an order; equal lists, what a list has, long suites: contracts. -/
import Derived.BigQuiet
import Derived.Deep.QuietTactic
import Derived.Test.YtmigkbimdjiigaaSuJ
import Derived.Test.YtmigkbimdjiigaaSuN
import Derived.Test.YtmigkbimdjiigaaHas
set_option linter.unusedVariables false
set_option linter.unusedSimpArgs false
namespace Go.Proofs.Ytmigkbimdjiigaa
open Go.RowKit Tinker

set_option maxRecDepth 100000 in
set_option maxHeartbeats 400000 in
theorem sameI8_self (n : Nat) (a b : Option Addr) (ca cb : Nat) (ps : List Int) (w : World) (hn : ps.length = n) (ha : IntsAt w a ps) (hb : IntsAt w b ps) (hm : n ≤ 1000) :
    Calls Try.prog 25 #[.slice a n ca, .slice b n cb] w fun e w' => e = .returned (.bool true) ∧ Below w.heap.size w w' := by
  have HN := Lib.hid hn
  have hnn : ((n : Int) != (n : Int)) = false := by simp
  clear hn
  go_enter Try.func25, Try.ntmps25
  go_wp2_with fail
  go_loopw [5] (fun s5 wr => ∃ k : Nat, k ≤ n ∧ s5 = .int .i64 k ∧ Below w.heap.size w wr) (fun s5 _ => n - (intOf s5).toNat)
  case atStart => exact ⟨0, Nat.zero_le _, rfl, Below.refl _ _⟩
  case round =>
    obtain ⟨k, hk, rfl, hB⟩ := hrel
    by_cases hlt : k < n
    · obtain ⟨b1, o1, l, rfl, hl1, hx, c0⟩ := (ha.below hB (Nat.le_refl _)).at_ (show k < ps.length by rw [HN.out]; exact hlt)
      obtain ⟨b2, o2, m, rfl, hl2, hy, d0⟩ := (hb.below hB (Nat.le_refl _)).at_ (show k < ps.length by rw [HN.out]; exact hlt)
      rw [hx] at hy
      injection hy with hy
      subst hy
      have HB := Lib.hid hB
      have hll : (l != l) = false := by simp
      clear hx ha hb hB
      go_wp2_with fail
      go_quiet (fail)
      go_wp2_with fail
      go_roundw
      case rel => exact ⟨k + 1, by omega, by go_num, HB.out.trans (Below.mono ⟨rfl, rfl, rfl, Nat.le_refl _, fun _ _ => rfl⟩ HB.out.size)⟩
      case measure => simp [intOf]; omega
    · go_wp2
      go_ret
      exact ⟨rfl, hB⟩

set_option maxHeartbeats 400000 in
theorem lHas8_any (a : Option Addr) (cap : Nat) (zs : List Int) (n : Int) (w : World) (hz : IntsAt w a zs) (hm : zs.length ≤ 1000) :
    Calls Try.prog 30 #[.slice a zs.length cap, .int .i64 n] w fun e w' => e = .returned (.bool (hasB zs n)) ∧ w = w' := by
  go_enter Try.func30, Try.ntmps30
  go_wp2_with fail
  go_loop [5] (fun i => ∃ k : Nat, k ≤ zs.length ∧ i = .int .i64 k ∧ (zs.take k).all (· != n) = true) (fun i => zs.length - (intOf i).toNat)
  case atStart => exact ⟨0, Nat.zero_le _, rfl, by simp⟩
  case round =>
    obtain ⟨k, hk, rfl, hall⟩ := hrel
    have HA := Lib.hid hall
    clear hall
    by_cases hlt : k < zs.length
    · obtain ⟨b, off, x, rfl, hlb, hl, h0⟩ := hz.at_ hlt
      have HL := Lib.hid hl
      clear hz hl
      by_cases hv : x = n
      · subst hv
        have hv2 : (x == x) = true := by simp
        go_wp2_with fail
        go_ret
        exact ⟨ret_bool (hasB_yes HL.out).symm, rfl⟩
      · have HV := Lib.hid (show (x != n) = true by simpa using hv)
        have hv2 : (x == n) = false := by simpa using hv
        clear hv
        go_wp2_with fail
        go_round
        case rel => exact ⟨k + 1, by omega, by go_num, all_snoc HA.out HL.out HV.out⟩
        case measure => simp [intOf]; omega
    · go_wp2_with fail
      go_ret
      exact ⟨ret_bool (hasB_no HA.out hlt).symm, rfl⟩

/-- Whether a suite is too long for a statement. -/
def lng8 (t : List (List Int)) : Bool := t.any (fun x => decide (50 < x.length)) || decide (50 < t.length)
theorem lng8_no {t : List (List Int)} (e : lng8 t = false) : t.length ≤ 50 ∧ ∀ x ∈ t, x.length ≤ 50 := by
  unfold lng8 at e
  simp only [Bool.or_eq_false_iff, decide_eq_false_iff_not] at e
  obtain ⟨e1, e2⟩ := e
  refine ⟨by omega, fun x hx => ?_⟩
  rw [List.any_eq_false] at e1
  have := e1 x hx
  simp at this
  omega
set_option maxRecDepth 100000 in
set_option maxHeartbeats 1000000 in
theorem long8_any (a : Option Addr) (ca : Nat) (t : List (List Int)) (w : World) (ht : RowsAt w a t) (hm : t.length ≤ maxLen) :
    Calls Try.prog 17 #[.slice a t.length ca] w fun e w' => e = .returned (.bool (lng8 t)) ∧ w = w' := by
  have hm2 : t.length ≤ 9223372036854775807 := hm
  clear hm
  go_enter Try.func17, Try.ntmps17
  go_wp2_with fail
  go_loop [3] (fun s => ∃ k : Nat, k ≤ t.length ∧ s = .int .i64 k ∧ (t.take k).any (fun x => decide (50 < x.length)) = false) (fun s => t.length - (intOf s).toNat)
  case atStart => exact ⟨0, Nat.zero_le _, rfl, by simp⟩
  case round =>
    obtain ⟨k, hk, rfl, hall⟩ := hrel
    have HA := Lib.hid hall
    clear hall
    by_cases hlt : k < t.length
    · obtain ⟨b, off, x, ax, cx, rfl, hlb, hx, c0, hxe⟩ := ht.at_ hlt
      have HX := Lib.hid hx
      clear hx hxe ht
      by_cases hv : (50 : Int) < (x.length : Int)
      · have HR := Lib.hid (show lng8 t = true by unfold lng8; rw [show t.any (fun x => decide (50 < x.length)) = true from List.any_eq_true.2 ⟨x, mem_of_get HX.out, by simp; omega⟩]; rfl)
        go_wp2_with fail
        go_ret
        exact ⟨ret_bool HR.out.symm, rfl⟩
      · have HV := Lib.hid (show decide (50 < x.length) = false by simp; omega)
        go_wp2_with fail
        go_round
        case rel => exact ⟨k + 1, by omega, by go_num, by rw [List.take_add_one, HX.out, List.any_append, HA.out]; show (false || ([x].any _)) = false; simp only [List.any_cons, HV.out, List.any_nil]; rfl⟩
        case measure => simp [intOf]; omega
    · have HR := Lib.hid (show lng8 t = decide (50 < t.length) by
        unfold lng8
        have := HA.out
        rw [List.take_of_length_le (by omega)] at this
        rw [this]
        rfl)
      clear ht
      by_cases h3 : (50 : Int) < (t.length : Int)
      · have h2 : decide (50 < t.length) = true := decide_eq_true (by omega)
        rw [h2] at HR
        clear h2
        go_wp2_with fail
        go_ret
        exact ⟨ret_bool HR.out.symm, rfl⟩
      · have h2 : decide (50 < t.length) = false := decide_eq_false (by omega)
        rw [h2] at HR
        clear h2
        go_wp2_with fail
        go_ret
        exact ⟨ret_bool HR.out.symm, rfl⟩

set_option maxRecDepth 100000 in
set_option maxHeartbeats 1000000 in
theorem tWait_any (a b : Option Addr) (ca cb : Nat) (s : List Nat) (o : List Int) (w : World) (hs : MskAt w a s) (hl : s.length ≤ 8) (hv : ∀ x ∈ s, x < 1024) (ho : IntsAt w b o) (hb : ∀ x ∈ o, 0 ≤ x ∧ x < 10) (hol : o.length ≤ 50) :
    Calls Try.prog 91 #[.slice a s.length ca, .slice b o.length cb] w fun e w' => e = .returned (.int .i64 (wtS s o o.length)) ∧ w = w' := by
  have HB := Lib.hid hb
  have HL := Lib.hid (fun S hS => tLeft_any a ca s S w hs hl hv hS)
  have HZ := Lib.hid (fun S => kSize_any (leftM s S) (leftM_lt hv S) w)
  clear hs hv hb
  go_enter Try.func91, Try.ntmps91
  go_wp2_with fail
  go_loop [5, 6, 11] (fun s5 s6 s11 => ∃ k : Nat, k ≤ o.length ∧ s11 = .int .i64 k ∧ s6 = .int .u64 (maskM (o.take k)) ∧ s5 = .int .i64 (wtS s o k)) (fun _ _ s11 => o.length - (intOf s11).toNat)
  case atStart => exact ⟨0, Nat.zero_le _, rfl, rfl, rfl⟩
  case round =>
    obtain ⟨k, hk, rfl, rfl, rfl⟩ := hrel
    by_cases hlt : k < o.length
    · obtain ⟨b1, off, x, rfl, hlb, hx, h0⟩ := ho.at_ hlt
      obtain ⟨x0, x9⟩ := HB.out x (mem_of_get hx)
      obtain ⟨n, rfl⟩ : ∃ n : Nat, x = (n : Int) := ⟨x.toNat, by omega⟩
      have hM : maskM (o.take k) < 1024 := maskM_ltK (fun x hx => HB.out x (List.mem_of_mem_take hx))
      have HT := Lib.hid (maskM_take hx)
      rw [show ((n : Int)).toNat = n from rfl] at HT
      have HW := Lib.hid (show wtS s o (k + 1) = wtS s o k + szK (leftM s (maskM (o.take k))) from rfl)
      have hw1 := wtS_le s o k
      have hw2 := szK_le (leftM s (maskM (o.take k)))
      have HLM := Lib.hid (HL.out _ hM)
      have HZM := Lib.hid (HZ.out (maskM (o.take k)))
      have HWM := Lib.hid (kWith_any (maskM (o.take k)) n hM (by omega) w)
      have hsum : IntKind.i64.wrap ((wtS s o k : Int) + (szK (leftM s (maskM (o.take k))) : Int)) = ((wtS s o k + szK (leftM s (maskM (o.take k))) : Nat) : Int) := by
        rw [show ((wtS s o k : Int) + (szK (leftM s (maskM (o.take k))) : Int)) = ((wtS s o k + szK (leftM s (maskM (o.take k))) : Nat) : Int) by omega]
        exact IntWalk.i64_in _ (by omega)
      generalize szK (leftM s (maskM (o.take k))) = Z at HZM HW hsum hw2
      generalize leftM s (maskM (o.take k)) = LM at HLM HZM
      generalize maskM (o.take k) = M at HT HLM HWM hM
      generalize wtS s o k = V at HW hsum hw1
      clear ho hx
      go_wp2_with fail
      refine HLM.out.mono ?_
      rintro e w' ⟨rfl, rfl⟩
      go_wp2_with fail
      refine HZM.out.mono ?_
      rintro e w' ⟨rfl, rfl⟩
      go_wp2_with fail
      refine HWM.out.mono ?_
      rintro e w' ⟨rfl, rfl⟩
      go_wp2_with fail
      go_round
      case rel => exact ⟨k + 1, by omega, by go_num, by rw [HT.out], by rw [HW.out]; exact congrArg (Value.int .i64) (by omega)⟩
      case measure => simp [intOf]; omega
    · obtain rfl : k = o.length := by omega
      go_wp2_with fail
      go_ret
      exact ⟨rfl, rfl⟩

end Go.Proofs.Ytmigkbimdjiigaa
