/- Several texts in one. -/
import Derived.Test.YtdcoebeffbkpnaaGreatMpB
import Derived.Test.YtdcoebeffbkpnaaGreatPtZ
import Derived.Test.YtdcoebeffbkpnaaGreatIndB
/- Patches together: contracts of then, Then, Merge. -/
set_option linter.unusedVariables false
set_option linter.unusedSimpArgs false
namespace Go.Proofs.YtdcoebeffbkpnaaGreat
open Go.RowKit Go.Maps Tinker

/-- What the edits of both make. -/
def tnC (xs ys : List E) : Int := if 4 < cnt8 (lastX (xs ++ ys)) then 3 else 0
def tnL (xs ys : List E) : List E := if 4 < cnt8 (lastX (xs ++ ys)) then [] else mpL (lastX (xs ++ ys))
theorem eRows_two {w : World} {a g : Option Addr} {ca cg : Nat} {xs ys : List E} (hx : EditsAt w a xs) (hy : EditsAt w g ys) : RowsEAt (w.alloc (.cells #[.slice a xs.length ca, .slice g ys.length cg] 23)) (some ⟨w.heap.size, 0, none⟩) [xs, ys] := by
  have hal : Below w.heap.size w (w.alloc (.cells #[.slice a xs.length ca, .slice g ys.length cg] 23)) := (Below.refl _ _).alloc (Nat.le_refl _) _
  refine .inr ⟨w.heap.size, 0, rfl, by simp, fun j zs hj => ?_⟩
  match j, hj with
  | 0, hj => simp at hj; subst hj; exact ⟨a, ca, hp_cell (hp_new rfl) (by rfl), hx.below hal (Nat.le_refl _)⟩
  | 1, hj => simp at hj; subst hj; exact ⟨g, cg, hp_cell (hp_new rfl) (by rfl), hy.below hal (Nat.le_refl _)⟩
  | j + 2, hj => simp at hj
theorem eRows_one {w : World} {a : Option Addr} {ca : Nat} {xs : List E} (hx : EditsAt w a xs) : RowsEAt (w.alloc (.cells #[.slice a xs.length ca] 23)) (some ⟨w.heap.size, 0, none⟩) [xs] := by
  have hal : Below w.heap.size w (w.alloc (.cells #[.slice a xs.length ca] 23)) := (Below.refl _ _).alloc (Nat.le_refl _) _
  refine .inr ⟨w.heap.size, 0, rfl, by simp, fun j zs hj => ?_⟩
  match j, hj with
  | 0, hj => simp at hj; subst hj; exact ⟨a, ca, hp_cell (hp_new rfl) (by rfl), hx.below hal (Nat.le_refl _)⟩
  | j + 1, hj => simp at hj
/-- A patch that fits the map. -/
def smallX (xs : List E) : Prop := xs.length ≤ 4 ∧ ∀ e ∈ xs, 0 ≤ e.at_ ∧ e.at_ ≤ 7
theorem smallX_of {xs : List E} (h : vx xs = 0) : smallX xs := ⟨(vx_ok h).1, fun e he => ((vx_ok h).2.2 e he).1⟩

/-- How many places a map has, at the operation. -/
theorem wpList_len_line {w : World} {ops : Array Oper} {rest : List Oper} {o : Oper} {a : Act} {Q : Exit → Act → World → Prop} (hg : o.guard = none) (m : Operand) (hop : o.op = Op.call { callee := Callee.builtin Builtin.len, args := #[m], argTypes := #[122] })
    (b : Nat) (f : Int → Option L) (hm : a.eval m = .map (some b)) (hM : MapI w b f)
    (hK : wpList Tryz.prog ops Q rest (a.put o.dst (.int .i64 (cnt8 f : Nat))) w) : wpList Tryz.prog ops Q (o :: rest) a w := by
  obtain ⟨D, n, h1, h2, h3, h4⟩ := hM
  refine wpList_len_own w hg m 122 hop 3 63 Tryz.underlying122 rV b n D hm h1 ?_
  rw [h4]
  exact hK

set_option maxRecDepth 100000 in
set_option maxHeartbeats 1000000 in
theorem pthen_any (a g : Option Addr) (ca cg : Nat) (xs ys : List E) (w : World) (hx : EditsAt w a xs) (hy : EditsAt w g ys) (sx : smallX xs) (sy : smallX ys) :
    Calls Tryz.prog 87 #[.slice a xs.length ca, .slice g ys.length cg] w (GivesEditsE (tnL xs ys) (tnC xs ys) w) := by
  have hE := editsOf_any (some ⟨w.heap.size, 0, none⟩) 2 [xs, ys] _ (eRows_two (ca := ca) (cg := cg) hx hy) (by simp) (by intro z hz; simp at hz; rcases hz with rfl | rfl; exact sx.1; exact sy.1) (by intro z hz; simp at hz; rcases hz with rfl | rfl; exact sx.2; exact sy.2)
  rw [show ([xs, ys] : List (List E)).flatten = xs ++ ys by simp] at hE
  have HB0 := Lib.hid (show Below w.heap.size w (w.alloc (.cells #[.slice a xs.length ca, .slice g ys.length cg] 23)) from (Below.refl _ _).alloc (Nat.le_refl _) _)
  have HE : Hid (Calls Tryz.prog 86 #[.slice (some ⟨w.heap.size, 0, none⟩) 2 2] (w.alloc (.cells #[.slice a xs.length ca, .slice g ys.length cg] 23)) (fun e w' => ∃ b, e = .returned (.map (some b)) ∧ MapI w' b (lastX (xs ++ ys)) ∧ Below (w.alloc (.cells #[.slice a xs.length ca, .slice g ys.length cg] 23)).heap.size (w.alloc (.cells #[.slice a xs.length ca, .slice g ys.length cg] 23)) w')) := Lib.hid (hE.mono (fun e w' h => ⟨_, h⟩))
  clear hx hy sx sy hE
  have HPF := Lib.hid (fun b w h => patchOf_any b (lastX (xs ++ ys)) w h)
  by_cases hlt : 4 < cnt8 (lastX (xs ++ ys))
  · rw [show tnL xs ys = [] from if_pos hlt, show tnC xs ys = 3 from if_pos hlt]
    generalize lastX (xs ++ ys) = f at HE HPF hlt
    have hlt2 : (4 : Int) < (cnt8 f : Int) := by omega
    clear HPF hlt
    generalize hc : cnt8 f = c at hlt2
    have HC := Lib.hid hc
    clear hc
    go_enter Tryz.func87, Tryz.ntmps87
    go_wp2_with fail
    refine HE.out.mono ?_
    rintro e w1 ⟨b, rfl, hM, hB⟩
    have HM := Lib.hid hM
    have HB := Lib.hid (HB0.out.trans (hB.mono HB0.out.size))
    clear hB HE HB0 hM
    go_wp2_with (at_len; refine wpList_len_line rfl _ rfl b f rfl HM.out ?_; rw [HC.out])
    go_ret2
    exact givesEditsE_nil HB.out
  · rw [show tnL xs ys = mpL (lastX (xs ++ ys)) from if_neg hlt, show tnC xs ys = 0 from if_neg hlt]
    generalize lastX (xs ++ ys) = f at HE HPF hlt ⊢
    have hlt2 : ¬ (4 : Int) < (cnt8 f : Int) := by omega
    clear hlt
    generalize hc : cnt8 f = c at hlt2
    have HC := Lib.hid hc
    clear hc
    go_enter Tryz.func87, Tryz.ntmps87
    go_wp2_with fail
    refine HE.out.mono ?_
    rintro e w1 ⟨b, rfl, hM, hB⟩
    have HM := Lib.hid hM
    have HB := Lib.hid (HB0.out.trans (hB.mono HB0.out.size))
    clear hB HE HB0 hM
    go_wp2_with (at_len; refine wpList_len_line rfl _ rfl b f rfl HM.out ?_; rw [HC.out])
    refine (HPF.out _ _ HM.out).mono ?_
    intro e w2 hG
    obtain ⟨v1, v2, rfl, ho, hB2⟩ := hG.wide HB.out
    have HO := Lib.hid ho
    have HB2 := Lib.hid hB2
    clear hG ho hB2
    go_wp2_with fail
    go_ret2
    exact ⟨v1, v2, rfl, HO.out, HB2.out⟩

end Go.Proofs.YtdcoebeffbkpnaaGreat

/- Patches together: contracts of Then, Merge. -/
set_option linter.unusedVariables false
set_option linter.unusedSimpArgs false
namespace Go.Proofs.YtdcoebeffbkpnaaGreat
open Go.RowKit Go.Maps Tinker

/-- A line in the map that is another one than that of an edit. -/
def cfB (f : Int → Option L) (e : E) : Bool := match f e.at_ with | none => false | some l => !eqL l e.ln
/-- What Merge answers. -/
def mgC (xs ys : List E) : Int := if fe (vx xs) (vx ys) = 0 then (if ys.any (cfB (lastX xs)) then 5 else tnC xs ys) else fe (vx xs) (vx ys)
def mgR (xs ys : List E) : List E := if mgC xs ys = 0 then tnL xs ys else []
theorem any_at {f : E → Bool} {ys : List E} {k : Nat} {e : E} (he : ys[k]? = some e) (h : f e = true) : ys.any f = true := List.any_eq_true.2 ⟨e, mem_of_get he, h⟩
theorem any_no {f : E → Bool} {ys : List E} (h : (ys.all fun e => !f e) = true) : ys.any f = false := by
  rw [List.any_eq_false]
  intro e he
  have := List.all_eq_true.1 h e he
  simpa using this

set_option maxRecDepth 100000 in
set_option maxHeartbeats 2000000 in
theorem pMerge_any (a g : Option Addr) (ca cg : Nat) (xs ys : List E) (w : World) (hx : EditsAt w a xs) (hy : EditsAt w g ys) (hm : xs.length ≤ 1000) (hn : ys.length ≤ 1000) :
    Calls Tryz.prog 35 #[.slice a xs.length ca, .slice g ys.length cg] w (GivesEditsE (mgR xs ys) (mgC xs ys) w) := by
  have H1 := Lib.hid (fun w hx => pValidate_any a ca xs w hx hm)
  have H2 := Lib.hid (fun w hy => pValidate_any g cg ys w hy hn)
  by_cases hz : fe (vx xs) (vx ys) = 0
  · obtain ⟨z1, z2⟩ := fe_0 hz
    have sx := smallX_of z1
    have sy := smallX_of z2
    have HSY := Lib.hid sy
    rw [z1] at H1
    rw [z2] at H2
    have HT := Lib.hid (fun w h h' => pthen_any a g ca cg xs ys w h h' sx sy)
    have HEO := Lib.hid (fun (W : World) (h : EditsAt W a xs) => show Calls Tryz.prog 86 #[.slice (some ⟨W.heap.size, 0, none⟩) 1 1] (W.alloc (.cells #[.slice a xs.length ca] 23)) (fun e w' => ∃ b, e = .returned (.map (some b)) ∧ W.heap.size ≤ b ∧ MapI w' b (lastX xs) ∧ Below W.heap.size W w') from by
      have hE := editsOf_any (some ⟨W.heap.size, 0, none⟩) 1 [xs] _ (eRows_one (ca := ca) h) (by simp) (by intro z hz; simp at hz; subst hz; exact sx.1) (by intro z hz; simp at hz; subst hz; exact sx.2)
      rw [show ([xs] : List (List E)).flatten = xs by simp] at hE
      have hal : Below W.heap.size W (W.alloc (.cells #[.slice a xs.length ca] 23)) := (Below.refl _ _).alloc (Nat.le_refl _) _
      exact hE.mono (fun e w' h => ⟨_, h.1, hal.size, h.2.1, hal.trans (h.2.2.mono hal.size)⟩))
    have HMC := Lib.hid (show mgC xs ys = if ys.any (cfB (lastX xs)) then 5 else tnC xs ys by unfold mgC; rw [if_pos hz])
    have HMR := Lib.hid (show mgR xs ys = if ys.any (cfB (lastX xs)) then [] else tnL xs ys by
      unfold mgR
      rw [HMC.out]
      cases h : ys.any (cfB (lastX xs))
      · simp only [Bool.false_eq_true, if_false]
        unfold tnC tnL
        by_cases h4 : 4 < cnt8 (lastX (xs ++ ys))
        · rw [if_pos h4, if_pos h4, if_neg (by decide)]
        · rw [if_neg h4, if_neg h4, if_pos rfl]
      · simp only [if_true]
        rw [if_neg (by decide)])
    have hl4 := sy.1
    clear z1 z2 hz sx sy
    generalize mgC xs ys = mc at HMC ⊢
    generalize mgR xs ys = mr at HMR ⊢
    generalize tnC xs ys = tc at HMC HT
    generalize tnL xs ys = tl at HMR HT
    generalize lastX xs = f at HMC HMR HEO
    go_enter Tryz.func35, Tryz.ntmps35
    go_wp2_with fail
    refine (H1.out _ hx).mono ?_
    rintro e w1 ⟨rfl, hB⟩
    have HB := Lib.hid hB
    clear hB
    go_wp2_with fail
    refine (H2.out _ (hy.below HB.out (Nat.le_refl _))).mono ?_
    rintro e w2 ⟨rfl, hB⟩
    have HB2 := Lib.hid (HB.out.trans (hB.mono HB.out.size))
    clear hB
    go_wp2_with fail
    refine (firstError_at _ _ 0 0 (ints_two _ _ _ _)).mono ?_
    rintro e w3 ⟨rfl, hw3⟩
    have hB3 := HB2.out.alloc HB2.out.size (.cells #[.int .i64 0, .int .i64 0] 28)
    rw [hw3] at hB3
    have HB3 := Lib.hid hB3
    clear hB3 hw3 H1 H2 HB HB2
    rw [show fe (0 : Int) 0 = 0 from rfl]
    go_wp2_with fail
    refine (HEO.out _ (hx.below HB3.out (Nat.le_refl _))).mono ?_
    rintro e w4 ⟨b, rfl, hbl, hM, hB⟩
    have HB4 := Lib.hid (HB3.out.trans (hB.mono HB3.out.size))
    have HM := Lib.hid hM
    clear hB hM hbl HEO HB3
    go_wp2_with fail
    go_loopw [26] (fun s26 wr => ∃ k : Nat, k ≤ ys.length ∧ s26 = .int .i64 k ∧ (ys.take k).all (fun e => !cfB f e) = true ∧ MapI wr b f ∧ Below w.heap.size w wr) (fun s26 _ => ys.length - (intOf s26).toNat)
    case atStart => exact ⟨0, Nat.zero_le _, rfl, by simp, HM.out, HB4.out⟩
    case round =>
      clear HM HB4
      obtain ⟨k, hk, rfl, hall, hM, hB⟩ := hrel
      have HA := Lib.hid hall
      clear hall
      by_cases hlt : k < ys.length
      · obtain ⟨b2, off, e, rfl, hlb, he, c0, c1, c2, c3, c4⟩ := (hy.below hB (Nat.le_refl _)).at_ hlt
        obtain ⟨a0, a7⟩ := HSY.out.2 e (mem_of_get he)
        have HE := Lib.hid he
        have hal : Below wr.heap.size wr (wr.alloc (.cells #[.int .i64 e.at_, .int .i64 e.ln.op, .int .i64 e.ln.to, .int .i64 e.ln.a, .int .i64 e.ln.b] 65)) := (Below.refl _ _).alloc (Nat.le_refl _) _
        have HM2 := Lib.hid (hM.low hal)
        have hB2 := hB.trans (hal.mono hB.size)
        cases hf : f e.at_ with
        | none =>
          have HN := Lib.hid (show (!cfB f e) = true by unfold cfB; rw [hf]; rfl)
          have HB5 := Lib.hid (hB2.alloc hB2.size (.cells #[.int .i64 0, .int .i64 0, .int .i64 0, .int .i64 0] 63))
          have HM5 := Lib.hid (HM2.out.low (Below.alloc (Below.refl _ _) (Nat.le_refl _) (.cells #[.int .i64 0, .int .i64 0, .int .i64 0, .int .i64 0] 63)))
          clear he hal hM hB hB2 hy hx
          go_wp2_with (at_lookup; refine wpList_look_line rfl _ _ rfl b f rfl HM2.out e.at_ a0 a7 rfl none hf ?_; rw [fV_none])
          go_roundw
          case rel => exact ⟨k + 1, by omega, by go_num, all_snoc HA.out HE.out HN.out, HM5.out, HB5.out⟩
          case measure => simp [intOf]; omega
        | some l =>
          have HB5 := Lib.hid (hB2.alloc hB2.size (.cells #[.int .i64 l.op, .int .i64 l.to, .int .i64 l.a, .int .i64 l.b] 63))
          have HM5 := Lib.hid (HM2.out.low (Below.alloc (Below.refl _ _) (Nat.le_refl _) (.cells #[.int .i64 l.op, .int .i64 l.to, .int .i64 l.a, .int .i64 l.b] 63)))
          cases hq : eqL l e.ln
          · have HR := Lib.hid (show ys.any (cfB f) = true from any_at he (by unfold cfB; rw [hf]; show (!eqL l e.ln) = true; rw [hq]; rfl))
            have HMC2 := Lib.hid (show mc = 5 by rw [HMC.out, HR.out]; rfl)
            have HMR2 := Lib.hid (show mr = [] by rw [HMR.out, HR.out]; rfl)
            have HNE := Lib.hid (ne_facts hq)
            clear he hal hM hB hB2 hy hx hq HMC HMR HR
            rcases HNE.out with h1 | ⟨h1, h2⟩ | ⟨h1, h2, h3⟩ | ⟨h1, h2, h3, h4⟩
            all_goals go_wp2_with (at_lookup; refine wpList_look_line rfl _ _ rfl b f rfl HM2.out e.at_ a0 a7 rfl (some l) hf ?_; rw [fV_some])
            all_goals go_ret2
            all_goals rw [HMC2.out, HMR2.out]
            all_goals exact givesEditsE_nil HB5.out
          · have HN := Lib.hid (show (!cfB f e) = true by unfold cfB; rw [hf]; show (!(!eqL l e.ln)) = true; rw [hq]; rfl)
            have HLE := Lib.hid (eqL_iff.1 hq)
            have h1 : (l.op == e.ln.op) = true := by rw [HLE.out]; simp
            have h2 : (l.to == e.ln.to) = true := by rw [HLE.out]; simp
            have h3 : (l.a == e.ln.a) = true := by rw [HLE.out]; simp
            have h4 : (l.b == e.ln.b) = true := by rw [HLE.out]; simp
            clear he hal hM hB hB2 hy hx hq
            go_wp2_with (at_lookup; refine wpList_look_line rfl _ _ rfl b f rfl HM2.out e.at_ a0 a7 rfl (some l) hf ?_; rw [fV_some])
            go_roundw
            case rel => exact ⟨k + 1, by omega, by go_num, all_snoc HA.out HE.out HN.out, HM5.out, HB5.out⟩
            case measure => simp [intOf]; omega
      · have HNO := Lib.hid (any_no (all_whole HA.out hlt))
        have HMC2 := Lib.hid (show mc = tc by rw [HMC.out, HNO.out]; rfl)
        have HMR2 := Lib.hid (show mr = tl by rw [HMR.out, HNO.out]; rfl)
        have HB := Lib.hid hB
        clear hB hM HMC HMR
        go_wp2_with fail
        refine (HT.out _ (hx.below HB.out (Nat.le_refl _)) (hy.below HB.out (Nat.le_refl _))).mono ?_
        rintro ex w5 ⟨v1, v2, rfl, ho, hB5⟩
        have HO := Lib.hid (own_mono ho HB.out.size)
        have HB5 := Lib.hid (HB.out.trans (hB5.mono HB.out.size))
        clear ho hB5
        go_wp2_with fail
        go_ret2
        rw [HMC2.out, HMR2.out]
        exact ⟨v1, v2, rfl, HO.out, HB5.out⟩
  · have HMC := Lib.hid (show mgC xs ys = fe (vx xs) (vx ys) by unfold mgC; rw [if_neg hz])
    have HMR := Lib.hid (show mgR xs ys = [] by unfold mgR; rw [HMC.out, if_neg hz])
    rw [HMC.out, HMR.out]
    have HF := Lib.hid (fun (W : World) => firstError_at W.heap.size (W.alloc (.cells #[.int .i64 (vx xs), .int .i64 (vx ys)] 28)) (vx xs) (vx ys) (ints_two _ _ _ _))
    generalize fe (vx xs) (vx ys) = c at HF hz ⊢
    generalize vx xs = c1 at HF H1
    generalize vx ys = c2 at HF H2
    have hz1 : (c != 0) = true := by simpa using hz
    have hz2 : (c == 0) = false := by simpa using hz
    clear hz HMC HMR
    go_enter Tryz.func35, Tryz.ntmps35
    go_wp2_with fail
    refine (H1.out _ hx).mono ?_
    rintro e w1 ⟨rfl, hB⟩
    have HB := Lib.hid hB
    clear hB
    go_wp2_with fail
    refine (H2.out _ (hy.below HB.out (Nat.le_refl _))).mono ?_
    rintro e w2 ⟨rfl, hB⟩
    have HB2 := Lib.hid (HB.out.trans (hB.mono HB.out.size))
    clear hB
    go_wp2_with fail
    refine (HF.out _).mono ?_
    rintro e w3 ⟨rfl, hw3⟩
    have hB3 := HB2.out.alloc HB2.out.size (.cells #[.int .i64 c1, .int .i64 c2] 28)
    rw [hw3] at hB3
    have HB3 := Lib.hid hB3
    clear hB3 hw3
    go_wp2_with fail
    go_ret2
    exact givesEditsE_nil HB3.out

end Go.Proofs.YtdcoebeffbkpnaaGreat
