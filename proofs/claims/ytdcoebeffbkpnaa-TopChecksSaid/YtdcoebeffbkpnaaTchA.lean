/- What TopChecks leans on. -/
import Derived.Test.YtdcoebeffbkpnaaExtD
import Derived.Test.YtdcoebeffbkpnaaDifC
import Derived.Test.YtdcoebeffbkpnaaMake
import Derived.Test.YtdcoebeffbkpnaaKnownT
set_option linter.unusedVariables false
set_option linter.unusedSimpArgs false
namespace Go.Proofs.Ytdcoebeffbkpnaa
open Go.RowKit Tinker

theorem endP_nil (s : List Int) (out : Int) : endP [] s out = s.getD out.toNat 0 := by
  unfold endP runE
  rw [tr_ge (by simp)]
theorem gdP_nil (s : List Int) (out mn mx : Int) : gdP [] out mn mx s = btw (s.getD out.toNat 0) mn mx := by unfold gdP; rw [endP_nil]
theorem tc_v : vpc [] [0, 0, 0, 0] [1, 0, 0, 2] 3 0 1 = 0 := by decide
theorem tc_first : fbL [] [0, 0, 0, 0] [1, 0, 0, 2] 3 0 1 = some [0, 0, 0, 2] := by
  rw [fbL_ok tc_v]
  rw [show (fun s => !gdP [] 3 0 1 s) = (fun s => !btw (s.getD 3 0) 0 1) from funext fun s => by rw [gdP_nil]; rfl]
  decide
/-- The first call of the law. -/
theorem tcFirst (W : World) (b c : Addr) (h1 : IntsAt W (some b) [0, 0, 0, 0]) (h2 : IntsAt W (some c) [1, 0, 0, 2]) :
    Calls Try.prog 11 #[.slice none 0 0, .agg #[.slice (some b) 4 4, .slice (some c) 4 4, .int .i64 3, .int .i64 0, .int .i64 1]] W fun e w' => ∃ a k, e = .returned (.tuple #[.slice a 4 k, .bool true, .int .i64 0]) ∧ IntsAt w' a [0, 0, 0, 2] ∧ Below W.heap.size W w' := by
  have h := firstC_any none (some b) (some c) 0 4 4 [] [0, 0, 0, 0] [1, 0, 0, 2] 3 0 1 W (.inl rfl) h1 h2 (by decide) (by decide)
  rw [tc_first, tc_v] at h
  exact h

theorem bdN_le {ps : List L} {lo hi : List Int} {out mn mx : Int} (h : vpc ps lo hi out mn mx = 0) : bdN ps lo hi out mn mx ≤ boxN lo hi out mn mx := by
  have hcon := (vpc_ok h).2
  have hc := okC_of (vcon_ok hcon).1
  rw [bdN_ok h]
  have h1 : ((allS lo hi).length : Int) = prd lo hi 4 := exTo_len 4 (fun j hj => hc.le j hj)
  have h2 : (bdS ps lo hi out mn mx).length ≤ (allS lo hi).length := List.length_filter_le _ _
  unfold boxN
  rw [if_pos hcon]
  omega
/-- What a bad state tells. -/
theorem bad_facts {ps : List L} {lo hi s : List Int} {out mn mx : Int} (h : vpc ps lo hi out mn mx = 0) (hs : fbL ps lo hi out mn mx = some s) :
    s.length = 4 ∧ mkC ps s out = 0 ∧ mkT ps s out = ⟨s, out, endP ps s out⟩ ∧ ¬ (mn ≤ endP ps s out ∧ endP ps s out ≤ mx) ∧ vpt ps [⟨s, out, mn⟩] = 0 ∧ passV ps ⟨s, out, mn⟩ = false := by
  obtain ⟨hm, hg⟩ := fbL_in hs
  obtain ⟨hv, hcon⟩ := vpc_ok h
  obtain ⟨hcon, _⟩ := vcon_ok hcon
  have hc := okC_of hcon
  obtain ⟨_, _, _, ho, hb1, hb2, hle⟩ := isCon_ok hcon
  have hx := exTo_in lo hi 4 s hm
  have hvs := inBx_vs hc hx
  have hvr : vr ps s = 0 := by unfold vr fe; rw [if_pos hv]; exact hvs
  have hmk : mkC ps s out = 0 := by unfold mkC fe; rw [if_pos hvr, if_pos ho]
  have hnb : ¬ (mn ≤ endP ps s out ∧ endP ps s out ≤ mx) := fun hh => by
    have : gdP ps out mn mx s = true := btw_true.2 hh
    rw [this] at hg; contradiction
  have hvt : vpt ps [⟨s, out, mn⟩] = 0 := by
    unfold vpt fe; rw [if_pos hv]
    unfold vts; simp [isT, hvs, ho, hb1]
  refine ⟨hx.1, hmk, by unfold mkT; rw [if_pos hmk], hnb, hvt, ?_⟩
  unfold passV
  rw [hvt]
  have : pas ps ⟨s, out, mn⟩ = false := by
    unfold pas
    simp only [beq_eq_false_iff_ne]
    intro e
    exact hnb (by omega)
  simp [this]
theorem endP_ok {ps : List L} {s : List Int} {out : Int} (h : vr ps s = 0) (ho : isReg out = true) : btw (endP ps s out) (-999) 999 = true := by
  have hk := runE_ok h
  have hr := btw_true.1 ho
  obtain ⟨x, hx⟩ := get_of_lt (show out.toNat < (runE ps s).length by rw [hk.1]; omega)
  unfold endP
  rw [getD_of_get hx]
  exact btw_true.2 (hk.2 x (mem_of_get hx))
/-- What a test that a program makes tells. -/
theorem made_facts {ps : List L} {s : List Int} {out : Int} (h : mkC ps s out = 0) :
    s.length = 4 ∧ vp ps = 0 ∧ vr ps s = 0 ∧ isReg out = true ∧ mkT ps s out = ⟨s, out, endP ps s out⟩ ∧ isT ⟨s, out, endP ps s out⟩ = true ∧ vpt ps [⟨s, out, endP ps s out⟩] = 0 ∧ passV ps ⟨s, out, endP ps s out⟩ = true := by
  unfold mkC fe at h
  split at h
  · rename_i hvr
    split at h
    · rename_i ho
      obtain ⟨hv, hvs⟩ := vr_ok hvr
      have hmk : mkC ps s out = 0 := by unfold mkC fe; rw [if_pos hvr, if_pos ho]
      have hb : btw (endP ps s out) (-999) 999 = true := (endP_ok hvr ho)
      have hT : isT ⟨s, out, endP ps s out⟩ = true := by unfold isT; simp [hvs, ho, hb]
      have hvt : vpt ps [⟨s, out, endP ps s out⟩] = 0 := by
        unfold vpt fe; rw [if_pos hv]; unfold vts; simp [hT]
      refine ⟨(vs_ok hvs).1, hv, hvr, ho, by unfold mkT; rw [if_pos hmk], hT, hvt, ?_⟩
      unfold passV
      rw [hvt]
      simp [pas]
    · omega
  · contradiction
theorem tL_one {ps qs : List L} {t : T} (h : vpqt ps qs [t] = 0) : (tL ps qs [t]).length = if (endP ps t.inn t.out == endP qs t.inn t.out) = true then 0 else 1 := by
  unfold tL
  rw [if_pos h]
  unfold plc plcTo
  cases hh : (endP ps t.inn t.out == endP qs t.inn t.out) <;> simp [bne, hh]
theorem tL_self {ps : List L} {t : T} (h : vpt ps [t] = 0) : tL ps ps [t] = [] ∧ vpqt ps ps [t] = 0 := by
  have hv := (vpt_ok h).1
  have h2 : vpqt ps ps [t] = 0 := by unfold vpqt fe; rw [if_pos hv]; exact h
  have h3 := tL_one h2
  simp at h3
  exact ⟨h3, h2⟩
/-- A state of the box is between the extremes. -/
theorem in_exV {ps : List L} {lo hi s : List Int} {out mn mx : Int} (h : vpc ps lo hi out mn mx = 0) (hx : inBx lo hi 4 s) : (exV ps lo hi out mn mx).1 ≤ endP ps s out ∧ endP ps s out ≤ (exV ps lo hi out mn mx).2 := by
  have hm : s ∈ allS lo hi := in_exTo lo hi 4 s hx
  rw [exV_ok h]
  exact ⟨((xtl_iff ps out _ 0 _).1 (Int.le_refl _)).2 s hm, ((xtl_iff2 ps out 0 _ _).1 (Int.le_refl _)).2 s hm⟩
/-- Where a state of the box tells two programs apart there is a first one. -/
theorem dfL_some {ps qs : List L} {lo hi s : List Int} {out mn mx : Int} (h : dfc ps qs lo hi out mn mx = 0) (hx : inBx lo hi 4 s) (hn : (endP ps s out == endP qs s out) = false) : (dfL ps qs lo hi out mn mx).isSome = true := by
  rw [dfL_ok h]
  cases hf : (allS lo hi).find? (fun s => !eqP ps qs out s) with
  | some x => rfl
  | none =>
    rw [List.find?_eq_none] at hf
    have := hf s (in_exTo lo hi 4 s hx)
    simp [eqP, hn] at this
/-- The first state that tells two programs apart. -/
theorem dif_facts {ps qs : List L} {lo hi s : List Int} {out mn mx : Int} (h : dfc ps qs lo hi out mn mx = 0) (hs : dfL ps qs lo hi out mn mx = some s) :
    s.length = 4 ∧ mkC ps s out = 0 ∧ mkT ps s out = ⟨s, out, endP ps s out⟩ ∧ mkC qs s out = 0 ∧ mkT qs s out = ⟨s, out, endP qs s out⟩ ∧ endP ps s out ≠ endP qs s out := by
  rw [dfL_ok h] at hs
  have hm := List.mem_of_find?_eq_some hs
  have hn : eqP ps qs out s = false := by simpa using List.find?_some hs
  obtain ⟨hv1, h2⟩ := dfc_ok h
  obtain ⟨hv2, hcon⟩ := vpc_ok h2
  obtain ⟨hcon, _⟩ := vcon_ok hcon
  have hc := okC_of hcon
  obtain ⟨_, _, _, ho, _⟩ := isCon_ok hcon
  have hx := exTo_in lo hi 4 s hm
  have hvs := inBx_vs hc hx
  have hm1 : mkC ps s out = 0 := by unfold mkC fe vr fe; rw [if_pos hv1, if_pos hvs, if_pos ho]
  have hm2 : mkC qs s out = 0 := by unfold mkC fe vr fe; rw [if_pos hv2, if_pos hvs, if_pos ho]
  refine ⟨hx.1, hm1, by unfold mkT; rw [if_pos hm1], hm2, by unfold mkT; rw [if_pos hm2], ?_⟩
  unfold eqP at hn
  simpa using hn
theorem vpqt_of {ps qs : List L} {lo hi : List Int} {out mn mx : Int} {t : T} (h : dfc ps qs lo hi out mn mx = 0) (ht : isT t = true) : vpqt ps qs [t] = 0 := by
  obtain ⟨hv1, h2⟩ := dfc_ok h
  obtain ⟨hv2, _⟩ := vpc_ok h2
  unfold vpqt vpt fe
  rw [if_pos hv1, if_pos hv2]
  unfold vts; simp [ht]
/-- One test in memory. -/
theorem one_test {w : World} {n : Nat} {a : Option Addr} {c : Nat} {t : T} (h : w.heap.size = n) (hi : IntsAt w a t.inn) : TestsAt (w.alloc (.cells #[.slice a t.inn.length c, .int .i64 t.out, .int .i64 t.want] 49)) (some ⟨n, 0, none⟩) [t] := by
  subst h
  have hj := hi.below ((Below.refl _ _).alloc (Nat.le_refl _) (.cells #[.slice a t.inn.length c, .int .i64 t.out, .int .i64 t.want] 49)) (Nat.le_refl _)
  refine .inr ⟨w.heap.size, 0, rfl, by simp, fun j t' hj' => ?_⟩
  match j, hj' with
  | 0, hj' => simp at hj'; subst hj'; exact ⟨a, c, hp_cell (hp_new rfl) rfl, hp_cell (hp_new rfl) rfl, hp_cell (hp_new rfl) rfl, hj⟩
  | j + 1, hj' => simp at hj'

end Go.Proofs.Ytdcoebeffbkpnaa
