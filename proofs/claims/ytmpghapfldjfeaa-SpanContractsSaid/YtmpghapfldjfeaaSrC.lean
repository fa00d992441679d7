/- Hull, Meet, half, Halves of the document: contracts. -/
import Derived.Test.YtmpghapfldjfeaaSrB
set_option linter.unusedVariables false
set_option linter.unusedSimpArgs false
namespace Go.Proofs.Ytmpghapfldjfeaa
open Go.RowKit Tinker

theorem boxes_blk2 {W : World} {g : Nat} {a1 a2 : Option Addr} {c1 c2 : Nat} {a b : List Rg} {t : TypeId} (h : W.heap[g]? = some (.cells #[.slice a1 4 c1, .slice a2 4 c2] t (0, 0))) (ha : RangesAt W a1 a) (hb : RangesAt W a2 b) : BoxesAt W (some ⟨g, 0, none⟩) [a, b] := by
  refine .inr ⟨g, 0, rfl, hp_lt h, fun j x hj => ?_⟩
  match j, hj with
  | 0, hj => simp at hj; subst hj; exact ⟨a1, c1, hp_cell h rfl, ha⟩
  | 1, hj => simp at hj; subst hj; exact ⟨a2, c2, hp_cell h rfl, hb⟩
  | j + 2, hj => simp at hj

theorem ranges_app2 {W1 : World} {base : Nat} {v' : Value} {ls qs : List Rg} (h : W1.ownsRow base 39 2 v' (ls.length + qs.length) (gc ls ++ gc qs)) : W1.ownsRow base 39 2 v' (ls ++ qs).length (gc (ls ++ qs)) := by
  rw [gc_append, List.length_append]; exact h
/-- append of ranges, be the other list nil or not. -/
theorem wpList_append_rg {w : World} {ops : Array Oper} {rest : List Oper} {o : Oper} {act : Act} {Q : Exit → Act → World → Prop} (hgd : o.guard = none) (s x : Operand)
    (ho : o.op = .call { callee := .builtin .append, args := #[s, x], argTypes := #[22, 22] }) (base : Nat) (v : Value) (LS : List Rg) (hs : act.eval s = v) (hown : w.ownsRow base 39 2 v LS.length (gc LS))
    (a : Option Addr) (c : Nat) (QS : List Rg) (hx : act.eval x = .slice a QS.length c) (hq : RangesAt w a QS) (hc : a = none → c = 0) (hm : LS.length + QS.length ≤ 10000) (hbase : base ≤ w.heap.size)
    (h : ∀ (v' : Value) (w' : World) (R : List Rg), Hid (R = LS ++ QS) → w'.ownsRow base 39 2 v' R.length (gc R) → (∀ B a0, Below B a0 w → B ≤ base → Below B a0 w') → wpList Try.prog ops Q rest (act.put o.dst v') w') : wpList Try.prog ops Q (o :: rest) act w := by
  obtain ⟨i0, hi, hz0, hz1, hz2⟩ := info_parts info_range
  cases a with
  | none =>
    have hq' := hq.none
    have hc' := hc rfl
    subst hq' hc'
    exact wpList_append_own_none hgd s x 22 ho base 39 i0 2 Try.underlying22 hi v LS.length (gc LS) hs hown hx (h v w (LS ++ []) (Lib.hid rfl) (by rw [List.append_nil]; exact hown) (fun _ _ h _ => h))
  | some ad =>
    refine wpList_append_own w hgd s x 22 ho base 39 i0 (.agg #[.int .i64 0, .int .i64 0]) 2 16 Try.underlying22 hi hz0 hz1 hz2 rfl (by decide) v LS.length (gc LS) hs hown ad QS.length c (gc QS) hx (gc_length _) hq.cells (gc_one _) (by simp [maxLen]; omega) (by omega) hbase ?_
    intro v' w' hown' hgrow _
    exact h v' w' (LS ++ QS) (Lib.hid rfl) (ranges_app2 hown') (fun B a0 hB hle => hB.grown hgrow (by omega) (fun k hk => Nat.le_trans hle (hown.lt k hk).1))

set_option maxRecDepth 100000 in
set_option maxHeartbeats 2000000 in
theorem rHull6_any (a1 a2 : Option Addr) (c1 c2 : Nat) (a b : List Rg) (w : World) (ha : RangesAt w a1 a) (hb : RangesAt w a2 b) :
    Calls Try.prog 25 #[.slice a1 a.length c1, .slice a2 b.length c2] w (GivesRgE (hullA a b) (fe (vb a) (vb b)) w) := by
  have HT := Lib.hid (fun w h1 h2 => rTwo_any a1 a2 c1 c2 a b w h1 h2)
  have HR := Lib.hid ha
  have HS := Lib.hid hb
  rcases fe_vb_cases a b with hz | hz
  · obtain ⟨z1, z2⟩ := fe_zero hz
    have h4 := (vb_ok z1).l4
    have k4 := (vb_ok z2).l4
    rw [show hullA a b = hullB a b by unfold hullA; rw [hz]; rfl, hz]
    rw [hz, h4, k4] at HT
    rw [h4, k4]
    have HH := Lib.hid (fun g w h => rhull_any (some ⟨g, 0, none⟩) 2 a [b] w h h4 (fun c hc => by simp at hc; subst hc; exact k4) (by simp))
    replace HH : Hid (∀ g w, BoxesAt w (some ⟨g, 0, none⟩) [a, b] → Calls Try.prog 73 #[.slice (some ⟨g, 0, none⟩) 2 2] w (GivesRg (hullB a b) w)) := HH
    generalize hullB a b = M at *
    clear hz z1 z2 h4 k4 ha hb
    go_enter Try.func25, Try.ntmps25
    go_wp2_with fail
    refine (HT.out _ HR.out HS.out).mono ?_
    rintro e w1 ⟨rfl, hB⟩
    have HB1 := Lib.hid hB
    clear hB
    go_wp2_with fail
    refine (HH.out _ _ (boxes_blk2 (hp_new rfl) (HR.out.below (HB1.out.alloc HB1.out.size _) (Nat.le_refl _)) (HS.out.below (HB1.out.alloc HB1.out.size _) (Nat.le_refl _)))).mono ?_
    intro e w2 hG
    obtain ⟨a', c', rfl, hown, hB8⟩ := hG.wide (HB1.out.alloc HB1.out.size _)
    have HO := Lib.hid hown
    clear hown hG
    go_wp2_with fail
    go_ret2
    exact ⟨a', c', rfl, HO.out, hB8⟩
  · rw [show hullA a b = [] by unfold hullA; rw [hz]; rfl, hz]
    rw [hz] at HT
    clear hz ha hb
    go_enter Try.func25, Try.ntmps25
    go_wp2_with fail
    refine (HT.out _ HR.out HS.out).mono ?_
    rintro e w1 ⟨rfl, hB⟩
    have HB1 := Lib.hid hB
    clear hB
    go_wp2_with fail
    go_ret2
    exact givesRgE_nil HB1.out

theorem half_eq1 {n : Int} (h : n < 0) : (n - 1).tdiv 2 = n / 2 := by
  have e : (n - 1).tdiv 2 = -((1 - n).tdiv 2) := by rw [show n - 1 = -(1 - n) by omega, Int.neg_tdiv]
  rw [e, Int.tdiv_eq_ediv_of_nonneg (by omega)]; omega
theorem half_eq2 {n : Int} (h : ¬ n < 0) : n.tdiv 2 = n / 2 := Int.tdiv_eq_ediv_of_nonneg (by omega)
set_option maxHeartbeats 1000000 in
theorem rHalf_any (n : Int) (w : World) (h1 : -2000 ≤ n) (h2 : n ≤ 2000) : Calls Try.prog 112 #[.int .i64 n] w fun e w' => e = .returned (.int .i64 (n / 2)) ∧ w = w' := by
  by_cases h : n < 0
  · have HE := Lib.hid (half_eq1 h)
    have b1 : -2000 ≤ (n - 1).tdiv 2 := by rw [half_eq1 h]; omega
    have b2 : (n - 1).tdiv 2 ≤ 2000 := by rw [half_eq1 h]; omega
    rw [← HE.out]
    go_enter Try.func112, Try.ntmps112
    go_wp2
    go_ret
    exact ⟨rfl, rfl⟩
  · have HE := Lib.hid (half_eq2 h)
    have b1 : -2000 ≤ n.tdiv 2 := by rw [half_eq2 h]; omega
    have b2 : n.tdiv 2 ≤ 2000 := by rw [half_eq2 h]; omega
    rw [← HE.out]
    go_enter Try.func112, Try.ntmps112
    go_wp2
    go_ret
    exact ⟨rfl, rfl⟩

end Go.Proofs.Ytmpghapfldjfeaa
