/- Several texts in one. -/
import Derived.Test.YtmpgaccpdglhkaaSrM
import Derived.Test.YtmpgaccpdglhkaaChkA
import Derived.Test.YtmpgaccpdglhkaaSpJ
import Derived.Test.YtmpgaccpdglhkaaSrT
import Derived.Test.YtmpgaccpdglhkaaSpR
import Derived.Test.YtmpgaccpdglhkaaExtD
import Derived.IntWalk
import Derived.Test.YtmpgaccpdglhkaaSpM
/- Hull, Meet, half, Halves of the document: contracts. -/
set_option linter.unusedVariables false
set_option linter.unusedSimpArgs false
namespace Go.Proofs.Ytmpgaccpdglhkaa
open Go.RowKit Tinker

theorem boxes_blk2 {W : World} {g : Nat} {a1 a2 : Option Addr} {c1 c2 : Nat} {a b : List Rg} {t : TypeId} (h : W.heap[g]? = some (.cells #[.slice a1 4 c1, .slice a2 4 c2] t (0, 0))) (ha : RangesAt W a1 a) (hb : RangesAt W a2 b) : BoxesAt W (some ⟨g, 0, none⟩) [a, b] := by
  refine .inr ⟨g, 0, rfl, hp_lt h, fun j x hj => ?_⟩
  match j, hj with
  | 0, hj => simp at hj; subst hj; exact ⟨a1, c1, hp_cell h rfl, ha⟩
  | 1, hj => simp at hj; subst hj; exact ⟨a2, c2, hp_cell h rfl, hb⟩
  | j + 2, hj => simp at hj

theorem ranges_app2 {W1 : World} {base : Nat} {v' : Value} {ls qs : List Rg} (h : W1.ownsRow base 52 2 v' (ls.length + qs.length) (gc ls ++ gc qs)) : W1.ownsRow base 52 2 v' (ls ++ qs).length (gc (ls ++ qs)) := by
  rw [gc_append, List.length_append]; exact h
/-- append of ranges, be the other list nil or not. -/
theorem wpList_append_rg {w : World} {ops : Array Oper} {rest : List Oper} {o : Oper} {act : Act} {Q : Exit → Act → World → Prop} (hgd : o.guard = none) (s x : Operand)
    (ho : o.op = .call { callee := .builtin .append, args := #[s, x], argTypes := #[23, 23] }) (base : Nat) (v : Value) (LS : List Rg) (hs : act.eval s = v) (hown : w.ownsRow base 52 2 v LS.length (gc LS))
    (a : Option Addr) (c : Nat) (QS : List Rg) (hx : act.eval x = .slice a QS.length c) (hq : RangesAt w a QS) (hc : a = none → c = 0) (hm : LS.length + QS.length ≤ 10000) (hbase : base ≤ w.heap.size)
    (h : ∀ (v' : Value) (w' : World) (R : List Rg), Hid (R = LS ++ QS) → w'.ownsRow base 52 2 v' R.length (gc R) → (∀ B a0, Below B a0 w → B ≤ base → Below B a0 w') → wpList Try.prog ops Q rest (act.put o.dst v') w') : wpList Try.prog ops Q (o :: rest) act w := by
  obtain ⟨i0, hi, hz0, hz1, hz2⟩ := info_parts info_range
  cases a with
  | none =>
    have hq' := hq.none
    have hc' := hc rfl
    subst hq' hc'
    exact wpList_append_own_none hgd s x 23 ho base 52 i0 2 Try.underlying23 hi v LS.length (gc LS) hs hown hx (h v w (LS ++ []) (Lib.hid rfl) (by rw [List.append_nil]; exact hown) (fun _ _ h _ => h))
  | some ad =>
    refine wpList_append_own w hgd s x 23 ho base 52 i0 (.agg #[.int .i64 0, .int .i64 0]) 2 16 Try.underlying23 hi hz0 hz1 hz2 rfl (by decide) v LS.length (gc LS) hs hown ad QS.length c (gc QS) hx (gc_length _) hq.cells (gc_one _) (by simp [maxLen]; omega) (by omega) hbase ?_
    intro v' w' hown' hgrow _
    exact h v' w' (LS ++ QS) (Lib.hid rfl) (ranges_app2 hown') (fun B a0 hB hle => hB.grown hgrow (by omega) (fun k hk => Nat.le_trans hle (hown.lt k hk).1))

theorem half_eq1 {n : Int} (h : n < 0) : (n - 1).tdiv 2 = n / 2 := by
  have e : (n - 1).tdiv 2 = -((1 - n).tdiv 2) := by rw [show n - 1 = -(1 - n) by omega, Int.neg_tdiv]
  rw [e, Int.tdiv_eq_ediv_of_nonneg (by omega)]; omega
theorem half_eq2 {n : Int} (h : ¬ n < 0) : n.tdiv 2 = n / 2 := Int.tdiv_eq_ediv_of_nonneg (by omega)
end Go.Proofs.Ytmpgaccpdglhkaa

/- point, Point, of, Of of the document: contracts. -/
set_option linter.unusedVariables false
set_option linter.unusedSimpArgs false
namespace Go.Proofs.Ytmpgaccpdglhkaa
open Go.RowKit Tinker

end Go.Proofs.Ytmpgaccpdglhkaa

/- of, Of of the document: contracts. -/
set_option linter.unusedVariables false
set_option linter.unusedSimpArgs false
namespace Go.Proofs.Ytmpgaccpdglhkaa
open Go.RowKit Tinker

theorem BoxC.low1 {x : Nat} {a b : Option Addr} {n m ca cb : Nat} {out mn mx : Int} {w W W' : World} {B : Nat} (h : BoxC x a b n m ca cb out mn mx w W) (hb : Below B W W') (h1 : x < B) (h2 : w.heap.size ≤ B) : BoxC x a b n m ca cb out mn mx w W' :=
  ⟨hp_below h.bl hb h1, h.below.trans (hb.mono h2)⟩
theorem conB_len {lo hi : List Int} (h : lo.length = 4) (h2 : hi.length = 4) : (conB lo hi).length = 4 := by unfold conB; rw [List.length_zipWith, h, h2]; rfl

set_option maxRecDepth 100000 in
set_option maxHeartbeats 4000000 in
theorem rof_any (a b : Option Addr) (ca cb : Nat) (lo hi : List Int) (out mn mx : Int) (w : World) (hl : IntsAt w a lo) (hh : IntsAt w b hi) (h4 : lo.length = 4) (k4 : hi.length = 4) :
    Calls Try.prog 59 #[.agg #[.slice a 4 ca, .slice b 4 cb, .int .i64 out, .int .i64 mn, .int .i64 mx]] w (GivesRg (conB lo hi) w) := by
  obtain ⟨i0, hi', hz0, hz1, hz2⟩ := info_parts info_range
  have hi0 := hi'
  clear hi'
  obtain ⟨lb, lf, rfl, _⟩ := id (hl.resolve_left (by rintro rfl; simp at h4))
  obtain ⟨hb, hf, rfl, _⟩ := id (hh.resolve_left (by rintro rfl; simp at k4))
  have HI := Lib.hid (boxC_new (a := some ⟨lb, lf, none⟩) (b := some ⟨hb, hf, none⟩) (n := 4) (m := 4) (ca := ca) (cb := cb) (out := out) (mn := mn) (mx := mx) w)
  have HL := Lib.hid h4
  have HK := Lib.hid k4
  have HS := Lib.hid hl
  have HT := Lib.hid hh
  have HPL := Lib.hid (conB_len h4 k4)
  have HPT := Lib.hid (fun k x y (h : lo[k]? = some x) (h' : hi[k]? = some y) => show (conB lo hi).take (k + 1) = (conB lo hi).take k ++ [⟨x, y⟩] from take_snoc (by unfold conB; rw [List.getElem?_zipWith, h, h']))
  have HLK := Lib.hid (fun k => show ((conB lo hi).take k).length ≤ 4 by rw [List.length_take, conB_len h4 k4]; omega)
  generalize conB lo hi = B at *
  clear h4 k4 hl hh
  have x0 := HI.out.c0
  have x1 := HI.out.c1
  go_enter Try.func59, Try.ntmps59
  go_wp2_with fail
  go_loopw [3, 4] (fun s3 s4 wr => ∃ k : Nat, k ≤ 4 ∧ s4 = .int .i64 k ∧ wr.ownsRow (w.heap.size + 1) 52 2 s3 (B.take k).length (gc (B.take k)) ∧ BoxC w.heap.size (some ⟨lb, lf, none⟩) (some ⟨hb, hf, none⟩) 4 4 ca cb out mn mx w wr) (fun _ s4 _ => 4 - (intOf s4).toNat)
  case atStart => exact ⟨0, Nat.zero_le _, rfl, World.ownsRow_nil _ _ _ _, HI.out⟩
  case round =>
    clear x0 x1 HI
    obtain ⟨k, hk, rfl, hown, hB⟩ := hrel
    have x0 := hB.c0
    have x1 := hB.c1
    by_cases hlt : k < 4
    · obtain ⟨g1, o1, x, e1, hlb, hx, c0⟩ := HS.out.at_ (show k < lo.length by rw [HL.out]; exact hlt)
      injection e1 with e1
      injection e1 with e2 e3
      subst e2 e3
      obtain ⟨g1, o1, y, e1, hhb, hy, c1⟩ := HT.out.at_ (show k < hi.length by rw [HK.out]; exact hlt)
      injection e1 with e1
      injection e1 with e2 e3
      subst e2 e3
      have HST := Lib.hid (HPT.out k x y hx hy)
      obtain ⟨P, hP⟩ : ∃ P, P = B.take k := ⟨_, rfl⟩
      rw [← hP] at hown
      have HPP := Lib.hid hP
      have hlk : P.length ≤ 4 := by rw [hP]; exact HLK.out k
      have HO := Lib.hid hown
      have HLB := Lib.hid hlb
      have HHB := Lib.hid hhb
      have HC0 := Lib.hid c0
      have HC1 := Lib.hid c1
      have HB0 := Lib.hid hB.drew
      replace HO : Hid (wr.drew.ownsRow (w.heap.size + 1) 52 2 _ P.length (gc P)) := Lib.hid HO.out
      have hlt1 : decide ((k : Int) < 4) = true := decide_eq_true (by omega)
      obtain ⟨va, vc, rfl⟩ := own_slice HO.out
      clear hown hP hB hx hy c0 c1 hlb hhb
      go_upto_region 5 with fail
      clear x0 x1
      have hi := hi0
      refine wp_region_held_drew (S := (fun W => BoxC w.heap.size (some ⟨lb, lf, none⟩) (some ⟨hb, hf, none⟩) 4 4 ca cb out mn mx w W)) (by kernel_rfl) ?_ (fun hHeld => ?_)
      · exact HB0.out
      generalize wr.drew = Wd at *
      refine wpAnyH_take (i := 0) (oi := ?oiq1) (v := ?vq1) ?hiq1 (by kernel_rfl) (by kernel_rfl) (by kernel_rfl) ?hqq1 ?hyq1 hHeld ?restq1
      case hiq1 => exact rfl
      case hqq1 => exact fun _ _ _ h => h
      case hyq1 =>
        refine Or.inl ⟨by rfl, ?_⟩
        intro w hSw
        go_simp
        (try with_reducible rfl)
      try simp only [Act.put, List.getElem_toArray, List.getElem_cons_succ, List.getElem_cons_zero, List.setIfInBounds_toArray, List.set_cons_zero, List.set_cons_succ]
      refine wpAnyH_take (i := 1) (oi := ?oiq2) (v := ?vq2) ?hiq2 (by kernel_rfl) (by kernel_rfl) (by kernel_rfl) ?hqq2 ?hyq2 hHeld ?restq2
      case hiq2 => exact rfl
      case hqq2 => exact fun _ _ _ h => h
      case hyq2 =>
        refine Or.inl ⟨by rfl, ?_⟩
        intro w hSw
        go_simp
        (try with_reducible rfl)
      try simp only [Act.put, List.getElem_toArray, List.getElem_cons_succ, List.getElem_cons_zero, List.setIfInBounds_toArray, List.set_cons_zero, List.set_cons_succ]
      refine wpAnyH_take (i := 2) (oi := ?oiq3) (v := (.slice (some ⟨lb, lf, none⟩) 4 ca)) ?hiq3 (by kernel_rfl) (by kernel_rfl) (by kernel_rfl) ?hqq3 ?hyq3 hHeld ?restq3
      case hiq3 => exact rfl
      case hqq3 => exact fun _ _ _ h => h
      case hyq3 =>
        refine Or.inl ⟨by rfl, ?_⟩
        intro w hSw
        have z := hSw.c0
        go_simp
        (try with_reducible rfl)
      try simp only [Act.put, List.getElem_toArray, List.getElem_cons_succ, List.getElem_cons_zero, List.setIfInBounds_toArray, List.set_cons_zero, List.set_cons_succ]
      refine wpAnyH_take (i := 3) (oi := ?oiq4) (v := ?vq4) ?hiq4 (by kernel_rfl) (by kernel_rfl) (by kernel_rfl) ?hqq4 ?hyq4 hHeld ?restq4
      case hiq4 => exact rfl
      case hqq4 => exact fun _ _ _ h => h
      case hyq4 =>
        refine Or.inl ⟨by rfl, ?_⟩
        intro w hSw
        go_simp
        (try with_reducible rfl)
      try simp only [Act.put, List.getElem_toArray, List.getElem_cons_succ, List.getElem_cons_zero, List.setIfInBounds_toArray, List.set_cons_zero, List.set_cons_succ]
      refine wpAnyH_take (i := 4) (oi := ?oiq5) (v := (.pointer (some ⟨lb, lf + k, none⟩))) ?hiq5 (by kernel_rfl) (by kernel_rfl) (by kernel_rfl) ?hqq5 ?hyq5 hHeld ?restq5
      case hiq5 => exact rfl
      case hqq5 => exact fun _ _ _ h => h
      case hyq5 =>
        refine Or.inl ⟨by rfl, ?_⟩
        intro w hSw
        go_simp
        (try rw [if_pos (by omega)])
        (try (intro h9; omega))
        (try rfl)
        (try with_reducible rfl)
      try simp only [Act.put, List.getElem_toArray, List.getElem_cons_succ, List.getElem_cons_zero, List.setIfInBounds_toArray, List.set_cons_zero, List.set_cons_succ]
      refine wpAnyH_take (i := 5) (oi := ?oiq6) (v := (.int .i64 x)) ?hiq6 (by kernel_rfl) (by kernel_rfl) (by kernel_rfl) ?hqq6 ?hyq6 hHeld ?restq6
      case hiq6 => exact rfl
      case hqq6 => exact fun _ _ _ h => h
      case hyq6 =>
        refine Or.inl ⟨by rfl, ?_⟩
        intro w hSw
        have z := (hSw.below.cell (p := ⟨lb, lf + k, none⟩) HLB.out).trans HC0.out
        go_simp
        (try with_reducible rfl)
      try simp only [Act.put, List.getElem_toArray, List.getElem_cons_succ, List.getElem_cons_zero, List.setIfInBounds_toArray, List.set_cons_zero, List.set_cons_succ]
      refine wpAnyH_take (i := 6) (oi := ?oiq7) (v := ?vq7) ?hiq7 (by kernel_rfl) (by kernel_rfl) (by kernel_rfl) ?hqq7 ?hyq7 hHeld ?restq7
      case hiq7 => exact rfl
      case hqq7 => exact fun _ _ _ h => h
      case hyq7 =>
        refine Or.inl ⟨by rfl, ?_⟩
        intro w hSw
        go_simp
        (try with_reducible rfl)
      try simp only [Act.put, List.getElem_toArray, List.getElem_cons_succ, List.getElem_cons_zero, List.setIfInBounds_toArray, List.set_cons_zero, List.set_cons_succ]
      refine wpAnyH_take (i := 7) (oi := ?oiq8) (v := (.slice (some ⟨hb, hf, none⟩) 4 cb)) ?hiq8 (by kernel_rfl) (by kernel_rfl) (by kernel_rfl) ?hqq8 ?hyq8 hHeld ?restq8
      case hiq8 => exact rfl
      case hqq8 => exact fun _ _ _ h => h
      case hyq8 =>
        refine Or.inl ⟨by rfl, ?_⟩
        intro w hSw
        have z := hSw.c1
        go_simp
        (try with_reducible rfl)
      try simp only [Act.put, List.getElem_toArray, List.getElem_cons_succ, List.getElem_cons_zero, List.setIfInBounds_toArray, List.set_cons_zero, List.set_cons_succ]
      refine wpAnyH_take (i := 8) (oi := ?oiq9) (v := ?vq9) ?hiq9 (by kernel_rfl) (by kernel_rfl) (by kernel_rfl) ?hqq9 ?hyq9 hHeld ?restq9
      case hiq9 => exact rfl
      case hqq9 => exact fun _ _ _ h => h
      case hyq9 =>
        refine Or.inl ⟨by rfl, ?_⟩
        intro w hSw
        go_simp
        (try with_reducible rfl)
      try simp only [Act.put, List.getElem_toArray, List.getElem_cons_succ, List.getElem_cons_zero, List.setIfInBounds_toArray, List.set_cons_zero, List.set_cons_succ]
      refine wpAnyH_take (i := 9) (oi := ?oiq10) (v := (.pointer (some ⟨hb, hf + k, none⟩))) ?hiq10 (by kernel_rfl) (by kernel_rfl) (by kernel_rfl) ?hqq10 ?hyq10 hHeld ?restq10
      case hiq10 => exact rfl
      case hqq10 => exact fun _ _ _ h => h
      case hyq10 =>
        refine Or.inl ⟨by rfl, ?_⟩
        intro w hSw
        go_simp
        (try rw [if_pos (by omega)])
        (try (intro h9; omega))
        (try rfl)
        (try with_reducible rfl)
      try simp only [Act.put, List.getElem_toArray, List.getElem_cons_succ, List.getElem_cons_zero, List.setIfInBounds_toArray, List.set_cons_zero, List.set_cons_succ]
      refine wpAnyH_take (i := 10) (oi := ?oiq11) (v := (.int .i64 y)) ?hiq11 (by kernel_rfl) (by kernel_rfl) (by kernel_rfl) ?hqq11 ?hyq11 hHeld ?restq11
      case hiq11 => exact rfl
      case hqq11 => exact fun _ _ _ h => h
      case hyq11 =>
        refine Or.inl ⟨by rfl, ?_⟩
        intro w hSw
        have z := (hSw.below.cell (p := ⟨hb, hf + k, none⟩) HHB.out).trans HC1.out
        go_simp
        (try with_reducible rfl)
      try simp only [Act.put, List.getElem_toArray, List.getElem_cons_succ, List.getElem_cons_zero, List.setIfInBounds_toArray, List.set_cons_zero, List.set_cons_succ]
      refine wpAnyH_take (i := 11) (oi := ?oiq12) (v := ?vq12) ?hiq12 (by kernel_rfl) (by kernel_rfl) (by kernel_rfl) ?hqq12 ?hyq12 hHeld ?restq12
      case hiq12 => exact rfl
      case hqq12 => exact fun _ _ _ h => h
      case hyq12 =>
        refine Or.inl ⟨by rfl, ?_⟩
        intro w hSw
        go_simp
        (try with_reducible rfl)
      try simp only [Act.put, List.getElem_toArray, List.getElem_cons_succ, List.getElem_cons_zero, List.setIfInBounds_toArray, List.set_cons_zero, List.set_cons_succ]
      refine wpAnyH_ready (rs := [12]) (by kernel_rfl) (by simp) ?_
      refine AllReadyH.cons (o := ?or15_12) ?hr15_12 ?kr15_12 AllReadyH.nil
      case hr15_12 => exact rfl
      case kr15_12 =>
        intro K hK
        go_simp
        have HB1 := Lib.hid (HB0.out.low ((Below.refl Wd.heap.size Wd).alloc (Nat.le_refl _) (.cells #[.int .i64 x, .int .i64 y] 52)))
        have HO1 := Lib.hid (own_below HO.out ((Below.refl Wd.heap.size Wd).alloc (Nat.le_refl _) (.cells #[.int .i64 x, .int .i64 y] 52)) (Nat.le_refl _))
        have HC3 := Lib.hid (show ∀ j u, (gc [⟨x, y⟩])[j]? = some u → (Wd.alloc (.cells #[.int .i64 x, .int .i64 y] 52)).cell? ((⟨Wd.heap.size, 0, none⟩ : Addr).add j) = some u from fun j u hu => by rw [show (⟨Wd.heap.size, 0, none⟩ : Addr).add j = ⟨Wd.heap.size, 0 + j, none⟩ by first | (simp [Addr.add]; done) | (simp [Addr.add]; omega), Nat.zero_add]; exact hp_cell (hp_new rfl) (by show (gc [⟨x, y⟩]).toArray[j]? = some u; rw [List.getElem?_toArray]; exact hu))
        refine hK.out _ _ HB1.out (fun hHeld => ?_)
        clear hK K
        try simp only [Act.put, List.getElem_toArray, List.getElem_cons_succ, List.getElem_cons_zero, List.setIfInBounds_toArray, List.set_cons_zero, List.set_cons_succ]
        refine wpAnyH_ready (rs := [13]) (by kernel_rfl) (by simp) ?_
        refine AllReadyH.cons (o := ?or14_13) ?hr14_13 ?kr14_13 AllReadyH.nil
        case hr14_13 => exact rfl
        case kr14_13 =>
          intro K hK
          rw [if_pos (by rfl)]
          refine wp_append_own _ (.tmp 12) (.tmp 24) 23 rfl (w.heap.size + 1) 52 i0 (.agg #[.int .i64 0, .int .i64 0]) 2 16 Try.underlying23 hi hz0 hz1 hz2 rfl (by decide) _ P.length (gc P) rfl HO1.out ⟨Wd.heap.size, 0, none⟩ 1 1 (gc [⟨x, y⟩]) rfl rfl HC3.out (gc_one _) (by simp [maxLen]; omega) (by omega) (by have := hp_lt HB1.out.bl; omega) ?_
          intro v5 W2 hown5 hgrow5 _
          have HB2x := Lib.hid (HB1.out.low1 (B := w.heap.size + 1) ((Below.refl (w.heap.size + 1) _).grown hgrow5 (by have := hp_lt HB1.out.bl; omega) (by rintro k hk; exact (HO1.out.lt k hk).1)) (by omega) (by omega))
          have HO2 := Lib.hid (show W2.ownsRow (w.heap.size + 1) 52 2 v5 (P ++ [(⟨x, y⟩ : Rg)]).length (gc (P ++ [(⟨x, y⟩ : Rg)])) by rw [List.length_append, gc_append]; exact hown5)
          clear hown5 hgrow5
          refine hK.out _ _ HB2x.out (fun hHeld => ?_)
          clear hK K
          try simp only [Act.put, List.getElem_toArray, List.getElem_cons_succ, List.getElem_cons_zero, List.setIfInBounds_toArray, List.set_cons_zero, List.set_cons_succ]
          refine wpAnyH_take (i := 14) (oi := ?oiq13) (v := ?vq13) ?hiq13 (by kernel_rfl) (by kernel_rfl) (by kernel_rfl) ?hqq13 ?hyq13 hHeld ?restq13
          case hiq13 => exact rfl
          case hqq13 => exact fun _ _ _ h => h
          case hyq13 =>
            refine Or.inl ⟨by rfl, ?_⟩
            intro w hSw
            go_simp
            (try with_reducible rfl)
          try simp only [Act.put, List.getElem_toArray, List.getElem_cons_succ, List.getElem_cons_zero, List.setIfInBounds_toArray, List.set_cons_zero, List.set_cons_succ]
          refine wpAnyH_done (by kernel_rfl) ?_ _
          clear hHeld
          go_wp2_with fail
          go_roundw
          case rel => exact ⟨k + 1, by omega, by go_num, by rw [HST.out, ← HPP.out]; exact HO2.out, HB2x.out⟩
          case measure => simp [intOf]; omega
    · have : k = 4 := by omega
      subst this
      rw [show ((4 : Nat) : Int) = 4 from rfl]
      have HTT := Lib.hid (show B.take 4 = B by rw [List.take_of_length_le (by rw [HPL.out]; omega)])
      rw [HTT.out, HPL.out] at hown
      have HO := Lib.hid (own_mono hown (base' := w.heap.size) (by omega))
      have HB := Lib.hid hB.below
      obtain ⟨va, vc, rfl⟩ := own_slice HO.out
      clear hown hB
      go_wp2_with fail
      go_ret
      unfold GivesRg
      rw [HPL.out]
      exact ⟨va, vc, rfl, HO.out, HB.out⟩

end Go.Proofs.Ytmpgaccpdglhkaa

/- contracted, proves, Proves of the document: contracts. -/
set_option linter.unusedVariables false
set_option linter.unusedSimpArgs false
namespace Go.Proofs.Ytmpgaccpdglhkaa
open Go.RowKit Tinker

set_option maxRecDepth 100000 in
set_option maxHeartbeats 4000000 in
theorem rcontracted_any (a a1 b1 : Option Addr) (ca c1 c2 : Nat) (ps : List L) (lo hi : List Int) (out mn mx : Int) (w : World) (hp : LinesAt w a ps) (hl : IntsAt w a1 lo) (hh : IntsAt w b1 hi) :
    Calls Try.prog 57 #[.slice a ps.length ca, .agg #[.slice a1 lo.length c1, .slice b1 hi.length c2, .int .i64 out, .int .i64 mn, .int .i64 mx]] w fun e w' => e = .returned (.int .i64 (vpc ps lo hi out mn mx)) ∧ Below w.heap.size w w' := by
  have HI := Lib.hid (boxC_new (a := a1) (b := b1) (n := lo.length) (m := hi.length) (ca := c1) (cb := c2) (out := out) (mn := mn) (mx := mx) w)
  have H1 := Lib.hid (fun w h => rValidate_any a ca ps w h)
  have H2 := Lib.hid (fun w hl hh => rValidateContract_any a1 b1 c1 c2 lo hi out mn mx w hl hh)
  have HP := Lib.hid hp
  have HL := Lib.hid hl
  have HH := Lib.hid hh
  unfold vpc
  by_cases hz : vp ps = 0
  · rw [hz] at H1
    rw [hz, show ∀ c, fe 0 c = c from fun _ => rfl]
    generalize vcon lo hi out mn mx = v2 at *
    clear hz hp hl hh
    have x0 := HI.out.c0
    have x1 := HI.out.c1
    have x2 := HI.out.c2
    have x3 := HI.out.c3
    have x4 := HI.out.c4
    go_enter Try.func57, Try.ntmps57
    go_wp2_with fail
    refine (H1.out _ (HP.out.below HI.out.below (Nat.le_refl _))).mono ?_
    rintro e w1 ⟨rfl, hB⟩
    have HI1 := Lib.hid (HI.out.low hB)
    clear HI hB x0 x1 x2 x3 x4
    have x0 := HI1.out.c0
    have x1 := HI1.out.c1
    have x2 := HI1.out.c2
    have x3 := HI1.out.c3
    have x4 := HI1.out.c4
    go_wp2_with fail
    refine (H2.out _ (HL.out.below HI1.out.below (Nat.le_refl _)) (HH.out.below HI1.out.below (Nat.le_refl _))).mono ?_
    rintro e w2 ⟨rfl, hB⟩
    have HI2 := Lib.hid (HI1.out.low hB)
    clear HI1 hB x0 x1 x2 x3 x4
    go_wp2_with fail
    go_ret
    exact ⟨rfl, HI2.out.below⟩
  · rw [show fe (vp ps) (vcon lo hi out mn mx) = vp ps by unfold fe; rw [if_neg hz]]
    have hz1 : (vp ps != 0) = true := by simpa using hz
    have hz2 : (vp ps == 0) = false := by simpa using hz
    generalize vp ps = c at *
    clear hz hp hl hh
    have x0 := HI.out.c0
    have x1 := HI.out.c1
    have x2 := HI.out.c2
    have x3 := HI.out.c3
    have x4 := HI.out.c4
    go_enter Try.func57, Try.ntmps57
    go_wp2_with fail
    refine (H1.out _ (HP.out.below HI.out.below (Nat.le_refl _))).mono ?_
    rintro e w1 ⟨rfl, hB⟩
    have HI1 := Lib.hid (HI.out.low hB)
    clear HI hB x0 x1 x2 x3 x4
    go_wp2_with fail
    go_ret
    exact ⟨rfl, HI1.out.below⟩

set_option maxRecDepth 100000 in
set_option maxHeartbeats 8000000 in
theorem rproves_any (a a1 b1 a2 : Option Addr) (ca c1 c2 n1 n2 cb : Nat) (ps : List L) (b : List Rg) (out mn mx : Int) (w : World) (hp : LinesAt w a ps) (hr : RangesAt w a2 b) (hv : vp ps = 0) (hb : OkB b) (ho : isReg out = true) :
    Calls Try.prog 58 #[.slice a ps.length ca, .agg #[.slice a1 n1 c1, .slice b1 n2 c2, .int .i64 out, .int .i64 mn, .int .i64 mx], .slice a2 4 cb] w fun e w' => e = .returned (.bool (pvB ps b out mn mx)) ∧ Below w.heap.size w w' := by
  have HI := Lib.hid (boxC_new (a := a1) (b := b1) (n := n1) (m := n2) (ca := c1) (cb := c2) (out := out) (mn := mn) (mx := mx) w)
  obtain ⟨h8, hvl⟩ := vp_ok hv
  obtain ⟨o0, o3⟩ := isReg_iff.1 ho
  have HA := Lib.hid (fun w h1 h2 => rafter_any a a2 ca cb ps b w h1 h2 hv hb)
  have k4 := (end_ok hvl hb).l4
  unfold GivesRg at HA
  rw [k4, hb.l4] at HA
  have HP := Lib.hid hp
  have HR := Lib.hid hr
  unfold pvB
  generalize endB ps b = y at *
  obtain ⟨yo, hyo⟩ := get_of_lt (show out.toNat < y.length by omega)
  have eg : gAt y out = yo := getD_of_get hyo
  have GC0 := Lib.hid (gc_get hyo)
  rw [eg]
  unfold subG
  have t1 : out < 4 := by omega
  have u1 : out.toNat < 4 := by omega
  clear hp hr hv hb ho h8 hvl k4 hyo eg
  cases hd : decide (mn ≤ yo.lo)
  · rw [show (false && decide (yo.hi ≤ mx)) = false from rfl]
    go_enter Try.func58, Try.ntmps58
    go_wp2_with fail
    refine wp_region_held_drew (S := (fun W => BoxC w.heap.size a1 b1 n1 n2 c1 c2 out mn mx w W)) (by kernel_rfl) ?_ (fun hHeld => ?_)
    · exact HI.out.drew
    generalize World.drew _ = Wd at *
    refine wpAnyH_take (i := 0) (oi := ?oiq1) (v := ?vq1) ?hiq1 (by kernel_rfl) (by kernel_rfl) (by kernel_rfl) ?hqq1 ?hyq1 hHeld ?restq1
    case hiq1 => exact rfl
    case hqq1 => exact fun _ _ _ h => h
    case hyq1 =>
      refine Or.inl ⟨by rfl, ?_⟩
      intro w hSw
      go_simp
      (try with_reducible rfl)
    try simp only [Act.put, List.getElem_toArray, List.getElem_cons_succ, List.getElem_cons_zero, List.setIfInBounds_toArray, List.set_cons_zero, List.set_cons_succ]
    refine wpAnyH_take (i := 1) (oi := ?oiq2) (v := ?vq2) ?hiq2 (by kernel_rfl) (by kernel_rfl) (by kernel_rfl) ?hqq2 ?hyq2 hHeld ?restq2
    case hiq2 => exact rfl
    case hqq2 => exact fun _ _ _ h => h
    case hyq2 =>
      refine Or.inl ⟨by rfl, ?_⟩
      intro w hSw
      go_simp
      (try with_reducible rfl)
    try simp only [Act.put, List.getElem_toArray, List.getElem_cons_succ, List.getElem_cons_zero, List.setIfInBounds_toArray, List.set_cons_zero, List.set_cons_succ]
    refine wpAnyH_take (i := 3) (oi := ?oiq3) (v := ?vq3) ?hiq3 (by kernel_rfl) (by kernel_rfl) (by kernel_rfl) ?hqq3 ?hyq3 hHeld ?restq3
    case hiq3 => exact rfl
    case hqq3 => exact fun _ _ _ h => h
    case hyq3 =>
      refine Or.inl ⟨by rfl, ?_⟩
      intro w hSw
      go_simp
      (try with_reducible rfl)
    try simp only [Act.put, List.getElem_toArray, List.getElem_cons_succ, List.getElem_cons_zero, List.setIfInBounds_toArray, List.set_cons_zero, List.set_cons_succ]
    refine wpAnyH_take (i := 4) (oi := ?oiq4) (v := (.int .i64 out)) ?hiq4 (by kernel_rfl) (by kernel_rfl) (by kernel_rfl) ?hqq4 ?hyq4 hHeld ?restq4
    case hiq4 => exact rfl
    case hqq4 => exact fun _ _ _ h => h
    case hyq4 =>
      refine Or.inl ⟨by rfl, ?_⟩
      intro w hSw
      have z2 := hSw.c2
      go_simp
      (try with_reducible rfl)
    try simp only [Act.put, List.getElem_toArray, List.getElem_cons_succ, List.getElem_cons_zero, List.setIfInBounds_toArray, List.set_cons_zero, List.set_cons_succ]
    refine wpAnyH_ready (rs := [2, 7]) (by kernel_rfl) (by simp) ?_
    refine AllReadyH.cons (o := ?or15_2) ?hr15_2 ?kr15_2 (AllReadyH.cons (o := ?or15_7) ?hr15_7 ?kr15_7 AllReadyH.nil)
    case hr15_2 => exact rfl
    case hr15_7 => exact rfl
    case kr15_2 =>
      intro K hK
      go_simp
      refine (HA.out _ (HP.out.below hHeld.below (Nat.le_refl _)) (HR.out.below hHeld.below (Nat.le_refl _))).mono ?_
      intro e w8 hG
      obtain ⟨ay, cy, rfl, hoy, hBw8⟩ := hG
      obtain ⟨gy, rfl⟩ := own_form hoy (by omega)
      have HQ0 := Lib.hid (own_cell hoy GC0.out.1)
      have HQ1 := Lib.hid (own_cell hoy GC0.out.2)
      have HGL := Lib.hid (own_lt hoy)
      clear hoy
      refine hK.out _ _ (hHeld.low hBw8) (fun hHeld => ?_)
      clear hK K
      try simp only [Act.put, List.getElem_toArray, List.getElem_cons_succ, List.getElem_cons_zero, List.setIfInBounds_toArray, List.set_cons_zero, List.set_cons_succ]
      refine wpAnyH_take (i := 5) (oi := ?oiq5) (v := ?vq5) ?hiq5 (by kernel_rfl) (by kernel_rfl) (by kernel_rfl) ?hqq5 ?hyq5 hHeld ?restq5
      case hiq5 => exact rfl
      case hqq5 => exact fun _ _ _ h => h
      case hyq5 =>
        refine Or.inl ⟨by rfl, ?_⟩
        intro w hSw
        go_simp
        (try with_reducible rfl)
      try simp only [Act.put, List.getElem_toArray, List.getElem_cons_succ, List.getElem_cons_zero, List.setIfInBounds_toArray, List.set_cons_zero, List.set_cons_succ]
      refine wpAnyH_ready (rs := [6, 7]) (by kernel_rfl) (by simp) ?_
      refine AllReadyH.cons (o := ?or10_6) ?hr10_6 ?kr10_6 (AllReadyH.cons (o := ?or10_7) ?hr10_7 ?kr10_7 AllReadyH.nil)
      case hr10_6 => exact rfl
      case hr10_7 => exact rfl
      case kr10_6 =>
        intro K hK
        have q0 := HQ0.out
        have q1 := HQ1.out
        go_simp
        clear q0 q1
        refine hK.out _ _ hHeld (fun hHeld => ?_)
        clear hK K
        try simp only [Act.put, List.getElem_toArray, List.getElem_cons_succ, List.getElem_cons_zero, List.setIfInBounds_toArray, List.set_cons_zero, List.set_cons_succ]
        refine wpAnyH_ready (rs := [7]) (by kernel_rfl) (by simp) ?_
        refine AllReadyH.cons (o := ?or7_7) ?hr7_7 ?kr7_7 AllReadyH.nil
        case hr7_7 => exact rfl
        case kr7_7 =>
          intro K hK
          go_simp
          have HN := Lib.hid (show (w8.alloc (.cells #[.int .i64 0, .int .i64 0] 52)).heap[w8.heap.size]? = _ from hp_new rfl)
          have hLA : w.heap.size < w8.heap.size := hp_lt hHeld.bl
          have HQ0 := Lib.hid (cell_alloc_keep (o := (.cells #[.int .i64 0, .int .i64 0] 52)) HQ0.out)
          have HQ1 := Lib.hid (cell_alloc_keep (o := (.cells #[.int .i64 0, .int .i64 0] 52)) HQ1.out)
          refine hK.out _ _ (hHeld.low ((Below.refl _ _).alloc (Nat.le_refl _) _)) (fun hHeld => ?_)
          clear hK K
          try simp only [Act.put, List.getElem_toArray, List.getElem_cons_succ, List.getElem_cons_zero, List.setIfInBounds_toArray, List.set_cons_zero, List.set_cons_succ]
          generalize hV1 : w8.alloc _ = wa1 at *
          generalize hLq1 : w8.heap.size = LA at *
          clear hV1 hLq1
          refine wpAnyH_ready (rs := [8]) (by kernel_rfl) (by simp) ?_
          refine AllReadyH.cons (o := ?or6_8) ?hr6_8 ?kr6_8 AllReadyH.nil
          case hr6_8 => exact rfl
          case kr6_8 =>
            intro K hK
            refine wp_store_row 52 (.tmp 7) (.tmp 14) rfl LA _ rfl rfl 52 _ HN.out (by kernel_rfl) rfl (two1 _ _) ?_
            refine hK.out _ _ (⟨hp_row hHeld.bl (by omega) _, below_setRow hHeld.below (by omega) _⟩) (fun hHeld => ?_)
            clear hK K
            try simp only [Act.put, List.getElem_toArray, List.getElem_cons_succ, List.getElem_cons_zero, List.setIfInBounds_toArray, List.set_cons_zero, List.set_cons_succ]
            have HFX := Lib.hid (hp_row_same HN.out #[.int .i64 yo.lo, .int .i64 yo.hi])
            have HIX := Lib.hid hHeld
            refine wpAnyH_done (by kernel_rfl) ?_ _
            clear hHeld
            generalize World.setRow _ _ _ = WF at *
            have y0 := hp_cell HFX.out (j := 0) rfl
            have y1 := hp_cell HFX.out (j := 1) rfl
            have x3 := HIX.out.c3
            have x4 := HIX.out.c4
            go_wp2_with fail
            go_ret
            exact ⟨rfl, HIX.out.below⟩
      case kr10_7 =>
        intro K hK
        go_simp
        have HN := Lib.hid (show (w8.alloc (.cells #[.int .i64 0, .int .i64 0] 52)).heap[w8.heap.size]? = _ from hp_new rfl)
        have hLA : w.heap.size < w8.heap.size := hp_lt hHeld.bl
        have HQ0 := Lib.hid (cell_alloc_keep (o := (.cells #[.int .i64 0, .int .i64 0] 52)) HQ0.out)
        have HQ1 := Lib.hid (cell_alloc_keep (o := (.cells #[.int .i64 0, .int .i64 0] 52)) HQ1.out)
        refine hK.out _ _ (hHeld.low ((Below.refl _ _).alloc (Nat.le_refl _) _)) (fun hHeld => ?_)
        clear hK K
        try simp only [Act.put, List.getElem_toArray, List.getElem_cons_succ, List.getElem_cons_zero, List.setIfInBounds_toArray, List.set_cons_zero, List.set_cons_succ]
        generalize hV2 : w8.alloc _ = wa2 at *
        generalize hLq2 : w8.heap.size = LA at *
        clear hV2 hLq2
        refine wpAnyH_ready (rs := [6]) (by kernel_rfl) (by simp) ?_
        refine AllReadyH.cons (o := ?or9_6) ?hr9_6 ?kr9_6 AllReadyH.nil
        case hr9_6 => exact rfl
        case kr9_6 =>
          intro K hK
          have q0 := HQ0.out
          have q1 := HQ1.out
          go_simp
          clear q0 q1
          refine hK.out _ _ hHeld (fun hHeld => ?_)
          clear hK K
          try simp only [Act.put, List.getElem_toArray, List.getElem_cons_succ, List.getElem_cons_zero, List.setIfInBounds_toArray, List.set_cons_zero, List.set_cons_succ]
          refine wpAnyH_ready (rs := [8]) (by kernel_rfl) (by simp) ?_
          refine AllReadyH.cons (o := ?or8_8) ?hr8_8 ?kr8_8 AllReadyH.nil
          case hr8_8 => exact rfl
          case kr8_8 =>
            intro K hK
            refine wp_store_row 52 (.tmp 7) (.tmp 14) rfl LA _ rfl rfl 52 _ HN.out (by kernel_rfl) rfl (two1 _ _) ?_
            refine hK.out _ _ (⟨hp_row hHeld.bl (by omega) _, below_setRow hHeld.below (by omega) _⟩) (fun hHeld => ?_)
            clear hK K
            try simp only [Act.put, List.getElem_toArray, List.getElem_cons_succ, List.getElem_cons_zero, List.setIfInBounds_toArray, List.set_cons_zero, List.set_cons_succ]
            have HFX := Lib.hid (hp_row_same HN.out #[.int .i64 yo.lo, .int .i64 yo.hi])
            have HIX := Lib.hid hHeld
            refine wpAnyH_done (by kernel_rfl) ?_ _
            clear hHeld
            generalize World.setRow _ _ _ = WF at *
            have y0 := hp_cell HFX.out (j := 0) rfl
            have y1 := hp_cell HFX.out (j := 1) rfl
            have x3 := HIX.out.c3
            have x4 := HIX.out.c4
            go_wp2_with fail
            go_ret
            exact ⟨rfl, HIX.out.below⟩
    case kr15_7 =>
      intro K hK
      go_simp
      have HN := Lib.hid (show (Wd.alloc (.cells #[.int .i64 0, .int .i64 0] 52)).heap[Wd.heap.size]? = _ from hp_new rfl)
      have hLA : w.heap.size < Wd.heap.size := hp_lt hHeld.bl
      refine hK.out _ _ (hHeld.low ((Below.refl _ _).alloc (Nat.le_refl _) _)) (fun hHeld => ?_)
      clear hK K
      try simp only [Act.put, List.getElem_toArray, List.getElem_cons_succ, List.getElem_cons_zero, List.setIfInBounds_toArray, List.set_cons_zero, List.set_cons_succ]
      generalize hV3 : Wd.alloc _ = wa3 at *
      generalize hLq3 : Wd.heap.size = LA at *
      clear hV3 hLq3
      refine wpAnyH_ready (rs := [2]) (by kernel_rfl) (by simp) ?_
      refine AllReadyH.cons (o := ?or14_2) ?hr14_2 ?kr14_2 AllReadyH.nil
      case hr14_2 => exact rfl
      case kr14_2 =>
        intro K hK
        go_simp
        refine (HA.out _ (HP.out.below hHeld.below (Nat.le_refl _)) (HR.out.below hHeld.below (Nat.le_refl _))).mono ?_
        intro e w8 hG
        obtain ⟨ay, cy, rfl, hoy, hBw8⟩ := hG
        obtain ⟨gy, rfl⟩ := own_form hoy (by omega)
        have HQ0 := Lib.hid (own_cell hoy GC0.out.1)
        have HQ1 := Lib.hid (own_cell hoy GC0.out.2)
        have HGL := Lib.hid (own_lt hoy)
        clear hoy
        replace HN := Lib.hid (hp_below HN.out hBw8 (hp_lt HN.out))
        refine hK.out _ _ (hHeld.low hBw8) (fun hHeld => ?_)
        clear hK K
        try simp only [Act.put, List.getElem_toArray, List.getElem_cons_succ, List.getElem_cons_zero, List.setIfInBounds_toArray, List.set_cons_zero, List.set_cons_succ]
        refine wpAnyH_take (i := 5) (oi := ?oiq11) (v := ?vq11) ?hiq11 (by kernel_rfl) (by kernel_rfl) (by kernel_rfl) ?hqq11 ?hyq11 hHeld ?restq11
        case hiq11 => exact rfl
        case hqq11 => exact fun _ _ _ h => h
        case hyq11 =>
          refine Or.inl ⟨by rfl, ?_⟩
          intro w hSw
          go_simp
          (try with_reducible rfl)
        try simp only [Act.put, List.getElem_toArray, List.getElem_cons_succ, List.getElem_cons_zero, List.setIfInBounds_toArray, List.set_cons_zero, List.set_cons_succ]
        refine wpAnyH_ready (rs := [6]) (by kernel_rfl) (by simp) ?_
        refine AllReadyH.cons (o := ?or13_6) ?hr13_6 ?kr13_6 AllReadyH.nil
        case hr13_6 => exact rfl
        case kr13_6 =>
          intro K hK
          have q0 := HQ0.out
          have q1 := HQ1.out
          go_simp
          clear q0 q1
          refine hK.out _ _ hHeld (fun hHeld => ?_)
          clear hK K
          try simp only [Act.put, List.getElem_toArray, List.getElem_cons_succ, List.getElem_cons_zero, List.setIfInBounds_toArray, List.set_cons_zero, List.set_cons_succ]
          refine wpAnyH_ready (rs := [8]) (by kernel_rfl) (by simp) ?_
          refine AllReadyH.cons (o := ?or12_8) ?hr12_8 ?kr12_8 AllReadyH.nil
          case hr12_8 => exact rfl
          case kr12_8 =>
            intro K hK
            refine wp_store_row 52 (.tmp 7) (.tmp 14) rfl LA _ rfl rfl 52 _ HN.out (by kernel_rfl) rfl (two1 _ _) ?_
            refine hK.out _ _ (⟨hp_row hHeld.bl (by omega) _, below_setRow hHeld.below (by omega) _⟩) (fun hHeld => ?_)
            clear hK K
            try simp only [Act.put, List.getElem_toArray, List.getElem_cons_succ, List.getElem_cons_zero, List.setIfInBounds_toArray, List.set_cons_zero, List.set_cons_succ]
            have HFX := Lib.hid (hp_row_same HN.out #[.int .i64 yo.lo, .int .i64 yo.hi])
            have HIX := Lib.hid hHeld
            refine wpAnyH_done (by kernel_rfl) ?_ _
            clear hHeld
            generalize World.setRow _ _ _ = WF at *
            have y0 := hp_cell HFX.out (j := 0) rfl
            have y1 := hp_cell HFX.out (j := 1) rfl
            have x3 := HIX.out.c3
            have x4 := HIX.out.c4
            go_wp2_with fail
            go_ret
            exact ⟨rfl, HIX.out.below⟩
  · rw [show (true && decide (yo.hi ≤ mx)) = decide (yo.hi ≤ mx) from rfl]
    go_enter Try.func58, Try.ntmps58
    go_wp2_with fail
    refine wp_region_held_drew (S := (fun W => BoxC w.heap.size a1 b1 n1 n2 c1 c2 out mn mx w W)) (by kernel_rfl) ?_ (fun hHeld => ?_)
    · exact HI.out.drew
    generalize World.drew _ = Wd at *
    refine wpAnyH_take (i := 0) (oi := ?oiq16) (v := ?vq16) ?hiq16 (by kernel_rfl) (by kernel_rfl) (by kernel_rfl) ?hqq16 ?hyq16 hHeld ?restq16
    case hiq16 => exact rfl
    case hqq16 => exact fun _ _ _ h => h
    case hyq16 =>
      refine Or.inl ⟨by rfl, ?_⟩
      intro w hSw
      go_simp
      (try with_reducible rfl)
    try simp only [Act.put, List.getElem_toArray, List.getElem_cons_succ, List.getElem_cons_zero, List.setIfInBounds_toArray, List.set_cons_zero, List.set_cons_succ]
    refine wpAnyH_take (i := 1) (oi := ?oiq17) (v := ?vq17) ?hiq17 (by kernel_rfl) (by kernel_rfl) (by kernel_rfl) ?hqq17 ?hyq17 hHeld ?restq17
    case hiq17 => exact rfl
    case hqq17 => exact fun _ _ _ h => h
    case hyq17 =>
      refine Or.inl ⟨by rfl, ?_⟩
      intro w hSw
      go_simp
      (try with_reducible rfl)
    try simp only [Act.put, List.getElem_toArray, List.getElem_cons_succ, List.getElem_cons_zero, List.setIfInBounds_toArray, List.set_cons_zero, List.set_cons_succ]
    refine wpAnyH_take (i := 3) (oi := ?oiq18) (v := ?vq18) ?hiq18 (by kernel_rfl) (by kernel_rfl) (by kernel_rfl) ?hqq18 ?hyq18 hHeld ?restq18
    case hiq18 => exact rfl
    case hqq18 => exact fun _ _ _ h => h
    case hyq18 =>
      refine Or.inl ⟨by rfl, ?_⟩
      intro w hSw
      go_simp
      (try with_reducible rfl)
    try simp only [Act.put, List.getElem_toArray, List.getElem_cons_succ, List.getElem_cons_zero, List.setIfInBounds_toArray, List.set_cons_zero, List.set_cons_succ]
    refine wpAnyH_take (i := 4) (oi := ?oiq19) (v := (.int .i64 out)) ?hiq19 (by kernel_rfl) (by kernel_rfl) (by kernel_rfl) ?hqq19 ?hyq19 hHeld ?restq19
    case hiq19 => exact rfl
    case hqq19 => exact fun _ _ _ h => h
    case hyq19 =>
      refine Or.inl ⟨by rfl, ?_⟩
      intro w hSw
      have z2 := hSw.c2
      go_simp
      (try with_reducible rfl)
    try simp only [Act.put, List.getElem_toArray, List.getElem_cons_succ, List.getElem_cons_zero, List.setIfInBounds_toArray, List.set_cons_zero, List.set_cons_succ]
    refine wpAnyH_ready (rs := [2, 7]) (by kernel_rfl) (by simp) ?_
    refine AllReadyH.cons (o := ?or30_2) ?hr30_2 ?kr30_2 (AllReadyH.cons (o := ?or30_7) ?hr30_7 ?kr30_7 AllReadyH.nil)
    case hr30_2 => exact rfl
    case hr30_7 => exact rfl
    case kr30_2 =>
      intro K hK
      go_simp
      refine (HA.out _ (HP.out.below hHeld.below (Nat.le_refl _)) (HR.out.below hHeld.below (Nat.le_refl _))).mono ?_
      intro e w8 hG
      obtain ⟨ay, cy, rfl, hoy, hBw8⟩ := hG
      obtain ⟨gy, rfl⟩ := own_form hoy (by omega)
      have HQ0 := Lib.hid (own_cell hoy GC0.out.1)
      have HQ1 := Lib.hid (own_cell hoy GC0.out.2)
      have HGL := Lib.hid (own_lt hoy)
      clear hoy
      refine hK.out _ _ (hHeld.low hBw8) (fun hHeld => ?_)
      clear hK K
      try simp only [Act.put, List.getElem_toArray, List.getElem_cons_succ, List.getElem_cons_zero, List.setIfInBounds_toArray, List.set_cons_zero, List.set_cons_succ]
      refine wpAnyH_take (i := 5) (oi := ?oiq20) (v := ?vq20) ?hiq20 (by kernel_rfl) (by kernel_rfl) (by kernel_rfl) ?hqq20 ?hyq20 hHeld ?restq20
      case hiq20 => exact rfl
      case hqq20 => exact fun _ _ _ h => h
      case hyq20 =>
        refine Or.inl ⟨by rfl, ?_⟩
        intro w hSw
        go_simp
        (try with_reducible rfl)
      try simp only [Act.put, List.getElem_toArray, List.getElem_cons_succ, List.getElem_cons_zero, List.setIfInBounds_toArray, List.set_cons_zero, List.set_cons_succ]
      refine wpAnyH_ready (rs := [6, 7]) (by kernel_rfl) (by simp) ?_
      refine AllReadyH.cons (o := ?or25_6) ?hr25_6 ?kr25_6 (AllReadyH.cons (o := ?or25_7) ?hr25_7 ?kr25_7 AllReadyH.nil)
      case hr25_6 => exact rfl
      case hr25_7 => exact rfl
      case kr25_6 =>
        intro K hK
        have q0 := HQ0.out
        have q1 := HQ1.out
        go_simp
        clear q0 q1
        refine hK.out _ _ hHeld (fun hHeld => ?_)
        clear hK K
        try simp only [Act.put, List.getElem_toArray, List.getElem_cons_succ, List.getElem_cons_zero, List.setIfInBounds_toArray, List.set_cons_zero, List.set_cons_succ]
        refine wpAnyH_ready (rs := [7]) (by kernel_rfl) (by simp) ?_
        refine AllReadyH.cons (o := ?or22_7) ?hr22_7 ?kr22_7 AllReadyH.nil
        case hr22_7 => exact rfl
        case kr22_7 =>
          intro K hK
          go_simp
          have HN := Lib.hid (show (w8.alloc (.cells #[.int .i64 0, .int .i64 0] 52)).heap[w8.heap.size]? = _ from hp_new rfl)
          have hLA : w.heap.size < w8.heap.size := hp_lt hHeld.bl
          have HQ0 := Lib.hid (cell_alloc_keep (o := (.cells #[.int .i64 0, .int .i64 0] 52)) HQ0.out)
          have HQ1 := Lib.hid (cell_alloc_keep (o := (.cells #[.int .i64 0, .int .i64 0] 52)) HQ1.out)
          refine hK.out _ _ (hHeld.low ((Below.refl _ _).alloc (Nat.le_refl _) _)) (fun hHeld => ?_)
          clear hK K
          try simp only [Act.put, List.getElem_toArray, List.getElem_cons_succ, List.getElem_cons_zero, List.setIfInBounds_toArray, List.set_cons_zero, List.set_cons_succ]
          generalize hV4 : w8.alloc _ = wa4 at *
          generalize hLq4 : w8.heap.size = LA at *
          clear hV4 hLq4
          refine wpAnyH_ready (rs := [8]) (by kernel_rfl) (by simp) ?_
          refine AllReadyH.cons (o := ?or21_8) ?hr21_8 ?kr21_8 AllReadyH.nil
          case hr21_8 => exact rfl
          case kr21_8 =>
            intro K hK
            refine wp_store_row 52 (.tmp 7) (.tmp 14) rfl LA _ rfl rfl 52 _ HN.out (by kernel_rfl) rfl (two1 _ _) ?_
            refine hK.out _ _ (⟨hp_row hHeld.bl (by omega) _, below_setRow hHeld.below (by omega) _⟩) (fun hHeld => ?_)
            clear hK K
            try simp only [Act.put, List.getElem_toArray, List.getElem_cons_succ, List.getElem_cons_zero, List.setIfInBounds_toArray, List.set_cons_zero, List.set_cons_succ]
            have HFX := Lib.hid (hp_row_same HN.out #[.int .i64 yo.lo, .int .i64 yo.hi])
            have HIX := Lib.hid hHeld
            refine wpAnyH_done (by kernel_rfl) ?_ _
            clear hHeld
            generalize World.setRow _ _ _ = WF at *
            have y0 := hp_cell HFX.out (j := 0) rfl
            have y1 := hp_cell HFX.out (j := 1) rfl
            have x3 := HIX.out.c3
            have x4 := HIX.out.c4
            go_wp2_with fail
            go_ret
            exact ⟨rfl, HIX.out.below⟩
      case kr25_7 =>
        intro K hK
        go_simp
        have HN := Lib.hid (show (w8.alloc (.cells #[.int .i64 0, .int .i64 0] 52)).heap[w8.heap.size]? = _ from hp_new rfl)
        have hLA : w.heap.size < w8.heap.size := hp_lt hHeld.bl
        have HQ0 := Lib.hid (cell_alloc_keep (o := (.cells #[.int .i64 0, .int .i64 0] 52)) HQ0.out)
        have HQ1 := Lib.hid (cell_alloc_keep (o := (.cells #[.int .i64 0, .int .i64 0] 52)) HQ1.out)
        refine hK.out _ _ (hHeld.low ((Below.refl _ _).alloc (Nat.le_refl _) _)) (fun hHeld => ?_)
        clear hK K
        try simp only [Act.put, List.getElem_toArray, List.getElem_cons_succ, List.getElem_cons_zero, List.setIfInBounds_toArray, List.set_cons_zero, List.set_cons_succ]
        generalize hV5 : w8.alloc _ = wa5 at *
        generalize hLq5 : w8.heap.size = LA at *
        clear hV5 hLq5
        refine wpAnyH_ready (rs := [6]) (by kernel_rfl) (by simp) ?_
        refine AllReadyH.cons (o := ?or24_6) ?hr24_6 ?kr24_6 AllReadyH.nil
        case hr24_6 => exact rfl
        case kr24_6 =>
          intro K hK
          have q0 := HQ0.out
          have q1 := HQ1.out
          go_simp
          clear q0 q1
          refine hK.out _ _ hHeld (fun hHeld => ?_)
          clear hK K
          try simp only [Act.put, List.getElem_toArray, List.getElem_cons_succ, List.getElem_cons_zero, List.setIfInBounds_toArray, List.set_cons_zero, List.set_cons_succ]
          refine wpAnyH_ready (rs := [8]) (by kernel_rfl) (by simp) ?_
          refine AllReadyH.cons (o := ?or23_8) ?hr23_8 ?kr23_8 AllReadyH.nil
          case hr23_8 => exact rfl
          case kr23_8 =>
            intro K hK
            refine wp_store_row 52 (.tmp 7) (.tmp 14) rfl LA _ rfl rfl 52 _ HN.out (by kernel_rfl) rfl (two1 _ _) ?_
            refine hK.out _ _ (⟨hp_row hHeld.bl (by omega) _, below_setRow hHeld.below (by omega) _⟩) (fun hHeld => ?_)
            clear hK K
            try simp only [Act.put, List.getElem_toArray, List.getElem_cons_succ, List.getElem_cons_zero, List.setIfInBounds_toArray, List.set_cons_zero, List.set_cons_succ]
            have HFX := Lib.hid (hp_row_same HN.out #[.int .i64 yo.lo, .int .i64 yo.hi])
            have HIX := Lib.hid hHeld
            refine wpAnyH_done (by kernel_rfl) ?_ _
            clear hHeld
            generalize World.setRow _ _ _ = WF at *
            have y0 := hp_cell HFX.out (j := 0) rfl
            have y1 := hp_cell HFX.out (j := 1) rfl
            have x3 := HIX.out.c3
            have x4 := HIX.out.c4
            go_wp2_with fail
            go_ret
            exact ⟨rfl, HIX.out.below⟩
    case kr30_7 =>
      intro K hK
      go_simp
      have HN := Lib.hid (show (Wd.alloc (.cells #[.int .i64 0, .int .i64 0] 52)).heap[Wd.heap.size]? = _ from hp_new rfl)
      have hLA : w.heap.size < Wd.heap.size := hp_lt hHeld.bl
      refine hK.out _ _ (hHeld.low ((Below.refl _ _).alloc (Nat.le_refl _) _)) (fun hHeld => ?_)
      clear hK K
      try simp only [Act.put, List.getElem_toArray, List.getElem_cons_succ, List.getElem_cons_zero, List.setIfInBounds_toArray, List.set_cons_zero, List.set_cons_succ]
      generalize hV6 : Wd.alloc _ = wa6 at *
      generalize hLq6 : Wd.heap.size = LA at *
      clear hV6 hLq6
      refine wpAnyH_ready (rs := [2]) (by kernel_rfl) (by simp) ?_
      refine AllReadyH.cons (o := ?or29_2) ?hr29_2 ?kr29_2 AllReadyH.nil
      case hr29_2 => exact rfl
      case kr29_2 =>
        intro K hK
        go_simp
        refine (HA.out _ (HP.out.below hHeld.below (Nat.le_refl _)) (HR.out.below hHeld.below (Nat.le_refl _))).mono ?_
        intro e w8 hG
        obtain ⟨ay, cy, rfl, hoy, hBw8⟩ := hG
        obtain ⟨gy, rfl⟩ := own_form hoy (by omega)
        have HQ0 := Lib.hid (own_cell hoy GC0.out.1)
        have HQ1 := Lib.hid (own_cell hoy GC0.out.2)
        have HGL := Lib.hid (own_lt hoy)
        clear hoy
        replace HN := Lib.hid (hp_below HN.out hBw8 (hp_lt HN.out))
        refine hK.out _ _ (hHeld.low hBw8) (fun hHeld => ?_)
        clear hK K
        try simp only [Act.put, List.getElem_toArray, List.getElem_cons_succ, List.getElem_cons_zero, List.setIfInBounds_toArray, List.set_cons_zero, List.set_cons_succ]
        refine wpAnyH_take (i := 5) (oi := ?oiq26) (v := ?vq26) ?hiq26 (by kernel_rfl) (by kernel_rfl) (by kernel_rfl) ?hqq26 ?hyq26 hHeld ?restq26
        case hiq26 => exact rfl
        case hqq26 => exact fun _ _ _ h => h
        case hyq26 =>
          refine Or.inl ⟨by rfl, ?_⟩
          intro w hSw
          go_simp
          (try with_reducible rfl)
        try simp only [Act.put, List.getElem_toArray, List.getElem_cons_succ, List.getElem_cons_zero, List.setIfInBounds_toArray, List.set_cons_zero, List.set_cons_succ]
        refine wpAnyH_ready (rs := [6]) (by kernel_rfl) (by simp) ?_
        refine AllReadyH.cons (o := ?or28_6) ?hr28_6 ?kr28_6 AllReadyH.nil
        case hr28_6 => exact rfl
        case kr28_6 =>
          intro K hK
          have q0 := HQ0.out
          have q1 := HQ1.out
          go_simp
          clear q0 q1
          refine hK.out _ _ hHeld (fun hHeld => ?_)
          clear hK K
          try simp only [Act.put, List.getElem_toArray, List.getElem_cons_succ, List.getElem_cons_zero, List.setIfInBounds_toArray, List.set_cons_zero, List.set_cons_succ]
          refine wpAnyH_ready (rs := [8]) (by kernel_rfl) (by simp) ?_
          refine AllReadyH.cons (o := ?or27_8) ?hr27_8 ?kr27_8 AllReadyH.nil
          case hr27_8 => exact rfl
          case kr27_8 =>
            intro K hK
            refine wp_store_row 52 (.tmp 7) (.tmp 14) rfl LA _ rfl rfl 52 _ HN.out (by kernel_rfl) rfl (two1 _ _) ?_
            refine hK.out _ _ (⟨hp_row hHeld.bl (by omega) _, below_setRow hHeld.below (by omega) _⟩) (fun hHeld => ?_)
            clear hK K
            try simp only [Act.put, List.getElem_toArray, List.getElem_cons_succ, List.getElem_cons_zero, List.setIfInBounds_toArray, List.set_cons_zero, List.set_cons_succ]
            have HFX := Lib.hid (hp_row_same HN.out #[.int .i64 yo.lo, .int .i64 yo.hi])
            have HIX := Lib.hid hHeld
            refine wpAnyH_done (by kernel_rfl) ?_ _
            clear hHeld
            generalize World.setRow _ _ _ = WF at *
            have y0 := hp_cell HFX.out (j := 0) rfl
            have y1 := hp_cell HFX.out (j := 1) rfl
            have x3 := HIX.out.c3
            have x4 := HIX.out.c4
            go_wp2_with fail
            go_ret
            exact ⟨rfl, HIX.out.below⟩

set_option maxRecDepth 100000 in
set_option maxHeartbeats 4000000 in
theorem rProves_any (a a1 b1 : Option Addr) (ca c1 c2 : Nat) (ps : List L) (lo hi : List Int) (out mn mx : Int) (w : World) (hp : LinesAt w a ps) (hl : IntsAt w a1 lo) (hh : IntsAt w b1 hi) :
    Calls Try.prog 23 #[.slice a ps.length ca, .agg #[.slice a1 lo.length c1, .slice b1 hi.length c2, .int .i64 out, .int .i64 mn, .int .i64 mx]] w fun e w' => e = .returned (.tuple #[.bool (pvA ps lo hi out mn mx), .int .i64 (vpc ps lo hi out mn mx)]) ∧ Below w.heap.size w w' := by
  have HI := Lib.hid (boxC_new (a := a1) (b := b1) (n := lo.length) (m := hi.length) (ca := c1) (cb := c2) (out := out) (mn := mn) (mx := mx) w)
  have HV := Lib.hid (fun w hp hl hh => rcontracted_any a a1 b1 ca c1 c2 ps lo hi out mn mx w hp hl hh)
  have HP := Lib.hid hp
  have HL := Lib.hid hl
  have HH := Lib.hid hh
  by_cases hz : vpc ps lo hi out mn mx = 0
  · obtain ⟨z1, z2⟩ := vpc_ok hz
    have hcon := (vcon_ok z2).1
    obtain ⟨q1, q2, q3, q4, q5, q6, q7⟩ := isCon_ok hcon
    have h4 := (vs_ok q1).1
    have k4 := (vs_ok q2).1
    have hok := okB_conV z2
    have HOF := Lib.hid (fun w h1 h2 => rof_any a1 b1 c1 c2 lo hi out mn mx w h1 h2 h4 k4)
    have HPV := Lib.hid (fun a2 cb w hp hr => rproves_any a a1 b1 a2 ca c1 c2 4 4 cb ps (conB lo hi) out mn mx w hp hr z1 hok q4)
    unfold GivesRg at HOF
    rw [hok.l4] at HOF
    rw [hz, h4, k4] at HV
    rw [h4, k4] at HI
    rw [h4, k4]
    rw [show pvA ps lo hi out mn mx = pvB ps (conB lo hi) out mn mx by unfold pvA; rw [if_pos hz], hz]
    generalize pvB ps (conB lo hi) out mn mx = V at *
    generalize conB lo hi = B at *
    clear hz z1 z2 hcon q1 q2 q3 q4 q5 q6 q7 h4 k4 hok hp hl hh
    have x0 := HI.out.c0
    have x1 := HI.out.c1
    have x2 := HI.out.c2
    have x3 := HI.out.c3
    have x4 := HI.out.c4
    go_enter Try.func23, Try.ntmps23
    go_wp2_with fail
    refine (HV.out _ (HP.out.below HI.out.below (Nat.le_refl _)) (HL.out.below HI.out.below (Nat.le_refl _)) (HH.out.below HI.out.below (Nat.le_refl _))).mono ?_
    rintro e w1 ⟨rfl, hB⟩
    have HI1 := Lib.hid (HI.out.low hB)
    clear HI hB x0 x1 x2 x3 x4
    have x0 := HI1.out.c0
    have x1 := HI1.out.c1
    have x2 := HI1.out.c2
    have x3 := HI1.out.c3
    have x4 := HI1.out.c4
    go_wp2_with fail
    clear x0 x1 x2 x3 x4
    refine wp_region_held_drew (S := (fun W => BoxC w.heap.size a1 b1 4 4 c1 c2 out mn mx w W)) (by kernel_rfl) ?_ (fun hHeld => ?_)
    · exact HI1.out.drew
    generalize World.drew w1 = Wd at *
    refine wpAnyH_take (i := 0) (oi := ?oiq33) (v := ?vq33) ?hiq33 (by kernel_rfl) (by kernel_rfl) (by kernel_rfl) ?hqq33 ?hyq33 hHeld ?restq33
    case hiq33 => exact rfl
    case hqq33 => exact fun _ _ _ h => h
    case hyq33 =>
      refine Or.inl ⟨by rfl, ?_⟩
      intro w hSw
      go_simp
      (try with_reducible rfl)
    try simp only [Act.put, List.getElem_toArray, List.getElem_cons_succ, List.getElem_cons_zero, List.setIfInBounds_toArray, List.set_cons_zero, List.set_cons_succ]
    refine wpAnyH_take (i := 1) (oi := ?oiq34) (v := ?vq34) ?hiq34 (by kernel_rfl) (by kernel_rfl) (by kernel_rfl) ?hqq34 ?hyq34 hHeld ?restq34
    case hiq34 => exact rfl
    case hqq34 => exact fun _ _ _ h => h
    case hyq34 =>
      refine Or.inl ⟨by rfl, ?_⟩
      intro w hSw
      have z0 := hSw.c0
      have z1 := hSw.c1
      have z2 := hSw.c2
      have z3 := hSw.c3
      have z4 := hSw.c4
      go_simp
      (try with_reducible rfl)
    try simp only [Act.put, List.getElem_toArray, List.getElem_cons_succ, List.getElem_cons_zero, List.setIfInBounds_toArray, List.set_cons_zero, List.set_cons_succ]
    refine wpAnyH_take (i := 2) (oi := ?oiq35) (v := ?vq35) ?hiq35 (by kernel_rfl) (by kernel_rfl) (by kernel_rfl) ?hqq35 ?hyq35 hHeld ?restq35
    case hiq35 => exact rfl
    case hqq35 => exact fun _ _ _ h => h
    case hyq35 =>
      refine Or.inl ⟨by rfl, ?_⟩
      intro w hSw
      have z0 := hSw.c0
      have z1 := hSw.c1
      have z2 := hSw.c2
      have z3 := hSw.c3
      have z4 := hSw.c4
      go_simp
      (try with_reducible rfl)
    try simp only [Act.put, List.getElem_toArray, List.getElem_cons_succ, List.getElem_cons_zero, List.setIfInBounds_toArray, List.set_cons_zero, List.set_cons_succ]
    refine wpAnyH_ready (rs := [3]) (by kernel_rfl) (by simp) ?_
    refine AllReadyH.cons (o := ?or37_3) ?hr37_3 ?kr37_3 AllReadyH.nil
    case hr37_3 => exact rfl
    case kr37_3 =>
      intro K hK
      go_simp
      refine (HOF.out _ (HL.out.below hHeld.below (Nat.le_refl _)) (HH.out.below hHeld.below (Nat.le_refl _))).mono ?_
      intro e w8 hG
      obtain ⟨ao, co, rfl, hoo, hB8⟩ := hG
      have HR8 := Lib.hid (ranges_of_own hoo).1
      clear hoo
      refine hK.out _ _ (hHeld.low hB8) (fun hHeld => ?_)
      clear hK K
      try simp only [Act.put, List.getElem_toArray, List.getElem_cons_succ, List.getElem_cons_zero, List.setIfInBounds_toArray, List.set_cons_zero, List.set_cons_succ]
      refine wpAnyH_ready (rs := [4]) (by kernel_rfl) (by simp) ?_
      refine AllReadyH.cons (o := ?or36_4) ?hr36_4 ?kr36_4 AllReadyH.nil
      case hr36_4 => exact rfl
      case kr36_4 =>
        intro K hK
        go_simp
        refine (HPV.out _ _ _ (HP.out.below hHeld.below (Nat.le_refl _)) HR8.out).mono ?_
        rintro e w9 ⟨rfl, hB9⟩
        refine hK.out _ _ (hHeld.low hB9) (fun hHeld => ?_)
        clear hK K
        try simp only [Act.put, List.getElem_toArray, List.getElem_cons_succ, List.getElem_cons_zero, List.setIfInBounds_toArray, List.set_cons_zero, List.set_cons_succ]
        refine wpAnyH_take (i := 5) (oi := ?oiq31) (v := ?vq31) ?hiq31 (by kernel_rfl) (by kernel_rfl) (by kernel_rfl) ?hqq31 ?hyq31 hHeld ?restq31
        case hiq31 => exact rfl
        case hqq31 => exact fun _ _ _ h => h
        case hyq31 =>
          refine Or.inl ⟨by rfl, ?_⟩
          intro w hSw
          go_simp
          (try with_reducible rfl)
        try simp only [Act.put, List.getElem_toArray, List.getElem_cons_succ, List.getElem_cons_zero, List.setIfInBounds_toArray, List.set_cons_zero, List.set_cons_succ]
        refine wpAnyH_take (i := 6) (oi := ?oiq32) (v := ?vq32) ?hiq32 (by kernel_rfl) (by kernel_rfl) (by kernel_rfl) ?hqq32 ?hyq32 hHeld ?restq32
        case hiq32 => exact rfl
        case hqq32 => exact fun _ _ _ h => h
        case hyq32 =>
          refine Or.inl ⟨by rfl, ?_⟩
          intro w hSw
          go_simp
          (try with_reducible rfl)
        try simp only [Act.put, List.getElem_toArray, List.getElem_cons_succ, List.getElem_cons_zero, List.setIfInBounds_toArray, List.set_cons_zero, List.set_cons_succ]
        have HBF := Lib.hid hHeld.below
        refine wpAnyH_done (by kernel_rfl) ?_ _
        clear hHeld
        go_wp2_with fail
        go_ret2
        exact ⟨rfl, HBF.out⟩
  · have hz1 : (vpc ps lo hi out mn mx != 0) = true := by simpa using hz
    have hz2 : (vpc ps lo hi out mn mx == 0) = false := by simpa using hz
    rw [show pvA ps lo hi out mn mx = false by unfold pvA; rw [if_neg hz]]
    generalize vpc ps lo hi out mn mx = c at *
    clear hz hp hl hh
    have x0 := HI.out.c0
    have x1 := HI.out.c1
    have x2 := HI.out.c2
    have x3 := HI.out.c3
    have x4 := HI.out.c4
    go_enter Try.func23, Try.ntmps23
    go_wp2_with fail
    refine (HV.out _ (HP.out.below HI.out.below (Nat.le_refl _)) (HL.out.below HI.out.below (Nat.le_refl _)) (HH.out.below HI.out.below (Nat.le_refl _))).mono ?_
    rintro e w1 ⟨rfl, hB⟩
    have HI1 := Lib.hid (HI.out.low hB)
    clear HI hB x0 x1 x2 x3 x4
    go_wp2_with fail
    go_ret2
    exact ⟨rfl, HI1.out.below⟩

end Go.Proofs.Ytmpgaccpdglhkaa

/- Loss of span, and of the document: contracts. -/
set_option linter.unusedVariables false
set_option linter.unusedSimpArgs false
namespace Go.Proofs.Ytmpgaccpdglhkaa
open Go.RowKit Tinker

/-- What Loss answers. -/
def lsA (ps : List L) (lo hi : List Int) (out mn mx : Int) : Int := if vpc ps lo hi out mn mx = 0 then ((gAt (endB ps (conB lo hi)) out).hi - (gAt (endB ps (conB lo hi)) out).lo) - ((exV ps lo hi out mn mx).2 - (exV ps lo hi out mn mx).1) else 0

set_option maxRecDepth 100000 in
set_option maxHeartbeats 4000000 in
theorem sLoss_any (a a1 b1 : Option Addr) (ca c1 c2 : Nat) (ps : List L) (lo hi : List Int) (out mn mx : Int) (w : World) (hp : LinesAt w a ps) (hl : IntsAt w a1 lo) (hh : IntsAt w b1 hi) (hm : lo.length ≤ 1000) (hm2 : hi.length ≤ 1000) :
    Calls Try.prog 27 #[.slice a ps.length ca, .agg #[.slice a1 lo.length c1, .slice b1 hi.length c2, .int .i64 out, .int .i64 mn, .int .i64 mx]] w fun e w' => e = .returned (.tuple #[.int .i64 (lsA ps lo hi out mn mx), .int .i64 (vpc ps lo hi out mn mx)]) ∧ Below w.heap.size w w' := by
  have HI := Lib.hid (boxC_new (a := a1) (b := b1) (n := lo.length) (m := hi.length) (ca := c1) (cb := c2) (out := out) (mn := mn) (mx := mx) w)
  have HV := Lib.hid (fun w hp hl hh => svalC_any a a1 b1 ca c1 c2 ps lo hi out mn mx w hp hl hh hm hm2)
  have HP := Lib.hid hp
  have HL := Lib.hid hl
  have HH := Lib.hid hh
  by_cases hz : vpc ps lo hi out mn mx = 0
  · obtain ⟨z1, z2⟩ := vpc_ok hz
    have hcon := (vcon_ok z2).1
    obtain ⟨q1, q2, q3, q4, q5, q6, q7⟩ := isCon_ok hcon
    have h4 := (vs_ok q1).1
    have k4 := (vs_ok q2).1
    have hok := okB_conV z2
    obtain ⟨o0, o3⟩ := isReg_iff.1 q4
    have hoe := end_ok (vp_ok z1).2 hok
    have hg := hoe.g o0 o3
    obtain ⟨⟨_, _⟩, ⟨_, _⟩, _⟩ := okG_iff.1 hg
    obtain ⟨e1, e2, e3⟩ := ex_in hz
    rw [show lsA ps lo hi out mn mx = ((gAt (endB ps (conB lo hi)) out).hi - (gAt (endB ps (conB lo hi)) out).lo) - ((exV ps lo hi out mn mx).2 - (exV ps lo hi out mn mx).1) by unfold lsA; rw [if_pos hz], hz]
    have t1 : out < 4 := by omega
    have u1 : out.toNat < 4 := by omega
    rw [hz, h4, k4] at HV
    rw [h4, k4] at HI
    rw [h4, k4]
    have HX := Lib.hid (fun w hp hl hh => extremes_any a a1 b1 ca c1 c2 ps lo hi out mn mx w hp hl hh hm hm2)
    rw [hz, h4, k4] at HX
    have HBO := Lib.hid (fun w h1 h2 => boxBetween_any a1 b1 c1 c2 lo hi w h1 h2 h4 k4)
    have HE := Lib.hid (fun w hp => send_any a ca ps (conB lo hi) w hp z1 hok)
    have HWD := Lib.hid (fun w => ivWidth_any (gAt (endB ps (conB lo hi)) out) w hg)
    have y4 := hoe.l4
    have b4 := hok.l4
    generalize (exV ps lo hi out mn mx).1 = l at *
    generalize (exV ps lo hi out mn mx).2 = m at *
    generalize endB ps (conB lo hi) = y at *
    generalize conB lo hi = B at *
    obtain ⟨y0, y1, y2, y3, rfl⟩ := rg_list4 y4
    obtain ⟨b0, b1', b2', b3', rfl⟩ := rg_list4 b4
    have hix := ixBout y0 y1 y2 y3 o0 o3
    rw [bx_4] at HE HBO
    rw [bx_4] at HE
    unfold gv at HWD
    generalize gAt [y0, y1, y2, y3] out = yo at *
    have hw1 : IntKind.i64.wrap (m - l) = m - l := IntWalk.i64_in _ (by omega)
    have hw2 : IntKind.i64.wrap (yo.hi - yo.lo - (m - l)) = yo.hi - yo.lo - (m - l) := IntWalk.i64_in _ (by omega)
    have hw3 : IntKind.i64.wrap (yo.hi - yo.lo) = yo.hi - yo.lo := IntWalk.i64_in _ (by omega)
    clear hz z1 z2 hcon q1 q2 q3 q4 q5 q6 q7 h4 k4 hok hoe hg hp hl hh hm hm2 y4 b4
    have x0 := HI.out.c0
    have x1 := HI.out.c1
    have x2 := HI.out.c2
    have x3 := HI.out.c3
    have x4 := HI.out.c4
    go_enter Try.func27, Try.ntmps27
    go_wp2_with fail
    refine (HV.out _ (HP.out.below HI.out.below (Nat.le_refl _)) (HL.out.below HI.out.below (Nat.le_refl _)) (HH.out.below HI.out.below (Nat.le_refl _))).mono ?_
    rintro e w1 ⟨rfl, hB⟩
    have HI1 := Lib.hid (HI.out.low hB)
    clear HI hB x0 x1 x2 x3 x4
    have x0 := HI1.out.c0
    have x1 := HI1.out.c1
    have x2 := HI1.out.c2
    have x3 := HI1.out.c3
    have x4 := HI1.out.c4
    go_wp2_with fail
    refine (HX.out _ (HP.out.below HI1.out.below (Nat.le_refl _)) (HL.out.below HI1.out.below (Nat.le_refl _)) (HH.out.below HI1.out.below (Nat.le_refl _))).mono ?_
    rintro e w2 ⟨rfl, hB⟩
    have HI2 := Lib.hid (HI1.out.low hB)
    clear HI1 hB x0 x1 x2 x3 x4
    have x0 := HI2.out.c0
    have x1 := HI2.out.c1
    have x2 := HI2.out.c2
    have x3 := HI2.out.c3
    have x4 := HI2.out.c4
    go_wp2_with fail
    clear x0 x1 x2 x3 x4
    refine wp_region_held_drew (S := (fun W => BoxC w.heap.size a1 b1 4 4 c1 c2 out mn mx w W)) (by kernel_rfl) ?_ (fun hHeld => ?_)
    · exact HI2.out.drew
    generalize World.drew w2 = Wd at *
    refine wpAnyH_take (i := 0) (oi := ?oiq53) (v := ?vq53) ?hiq53 (by kernel_rfl) (by kernel_rfl) (by kernel_rfl) ?hqq53 ?hyq53 hHeld ?restq53
    case hiq53 => exact rfl
    case hqq53 => exact fun _ _ _ h => h
    case hyq53 =>
      refine Or.inl ⟨by rfl, ?_⟩
      intro w hSw
      go_simp
      (try with_reducible rfl)
    try simp only [Act.put, List.getElem_toArray, List.getElem_cons_succ, List.getElem_cons_zero, List.setIfInBounds_toArray, List.set_cons_zero, List.set_cons_succ]
    refine wpAnyH_take (i := 1) (oi := ?oiq54) (v := ?vq54) ?hiq54 (by kernel_rfl) (by kernel_rfl) (by kernel_rfl) ?hqq54 ?hyq54 hHeld ?restq54
    case hiq54 => exact rfl
    case hqq54 => exact fun _ _ _ h => h
    case hyq54 =>
      refine Or.inl ⟨by rfl, ?_⟩
      intro w hSw
      go_simp
      (try with_reducible rfl)
    try simp only [Act.put, List.getElem_toArray, List.getElem_cons_succ, List.getElem_cons_zero, List.setIfInBounds_toArray, List.set_cons_zero, List.set_cons_succ]
    refine wpAnyH_take (i := 2) (oi := ?oiq55) (v := (.slice a1 4 c1)) ?hiq55 (by kernel_rfl) (by kernel_rfl) (by kernel_rfl) ?hqq55 ?hyq55 hHeld ?restq55
    case hiq55 => exact rfl
    case hqq55 => exact fun _ _ _ h => h
    case hyq55 =>
      refine Or.inl ⟨by rfl, ?_⟩
      intro w hSw
      have z0 := hSw.c0
      go_simp
      (try with_reducible rfl)
    try simp only [Act.put, List.getElem_toArray, List.getElem_cons_succ, List.getElem_cons_zero, List.setIfInBounds_toArray, List.set_cons_zero, List.set_cons_succ]
    refine wpAnyH_take (i := 3) (oi := ?oiq56) (v := ?vq56) ?hiq56 (by kernel_rfl) (by kernel_rfl) (by kernel_rfl) ?hqq56 ?hyq56 hHeld ?restq56
    case hiq56 => exact rfl
    case hqq56 => exact fun _ _ _ h => h
    case hyq56 =>
      refine Or.inl ⟨by rfl, ?_⟩
      intro w hSw
      go_simp
      (try with_reducible rfl)
    try simp only [Act.put, List.getElem_toArray, List.getElem_cons_succ, List.getElem_cons_zero, List.setIfInBounds_toArray, List.set_cons_zero, List.set_cons_succ]
    refine wpAnyH_take (i := 4) (oi := ?oiq57) (v := (.slice b1 4 c2)) ?hiq57 (by kernel_rfl) (by kernel_rfl) (by kernel_rfl) ?hqq57 ?hyq57 hHeld ?restq57
    case hiq57 => exact rfl
    case hqq57 => exact fun _ _ _ h => h
    case hyq57 =>
      refine Or.inl ⟨by rfl, ?_⟩
      intro w hSw
      have z1 := hSw.c1
      go_simp
      (try with_reducible rfl)
    try simp only [Act.put, List.getElem_toArray, List.getElem_cons_succ, List.getElem_cons_zero, List.setIfInBounds_toArray, List.set_cons_zero, List.set_cons_succ]
    refine wpAnyH_take (i := 7) (oi := ?oiq58) (v := ?vq58) ?hiq58 (by kernel_rfl) (by kernel_rfl) (by kernel_rfl) ?hqq58 ?hyq58 hHeld ?restq58
    case hiq58 => exact rfl
    case hqq58 => exact fun _ _ _ h => h
    case hyq58 =>
      refine Or.inl ⟨by rfl, ?_⟩
      intro w hSw
      go_simp
      (try with_reducible rfl)
    try simp only [Act.put, List.getElem_toArray, List.getElem_cons_succ, List.getElem_cons_zero, List.setIfInBounds_toArray, List.set_cons_zero, List.set_cons_succ]
    refine wpAnyH_take (i := 8) (oi := ?oiq59) (v := (.int .i64 out)) ?hiq59 (by kernel_rfl) (by kernel_rfl) (by kernel_rfl) ?hqq59 ?hyq59 hHeld ?restq59
    case hiq59 => exact rfl
    case hqq59 => exact fun _ _ _ h => h
    case hyq59 =>
      refine Or.inl ⟨by rfl, ?_⟩
      intro w hSw
      have z2 := hSw.c2
      go_simp
      (try with_reducible rfl)
    try simp only [Act.put, List.getElem_toArray, List.getElem_cons_succ, List.getElem_cons_zero, List.setIfInBounds_toArray, List.set_cons_zero, List.set_cons_succ]
    refine wpAnyH_take (i := 11) (oi := ?oiq60) (v := ?vq60) ?hiq60 (by kernel_rfl) (by kernel_rfl) (by kernel_rfl) ?hqq60 ?hyq60 hHeld ?restq60
    case hiq60 => exact rfl
    case hqq60 => exact fun _ _ _ h => h
    case hyq60 =>
      refine Or.inl ⟨by rfl, ?_⟩
      intro w hSw
      go_simp
      (try with_reducible rfl)
    try simp only [Act.put, List.getElem_toArray, List.getElem_cons_succ, List.getElem_cons_zero, List.setIfInBounds_toArray, List.set_cons_zero, List.set_cons_succ]
    refine wpAnyH_take (i := 12) (oi := ?oiq61) (v := ?vq61) ?hiq61 (by kernel_rfl) (by kernel_rfl) (by kernel_rfl) ?hqq61 ?hyq61 hHeld ?restq61
    case hiq61 => exact rfl
    case hqq61 => exact fun _ _ _ h => h
    case hyq61 =>
      refine Or.inl ⟨by rfl, ?_⟩
      intro w hSw
      go_simp
      (try with_reducible rfl)
    try simp only [Act.put, List.getElem_toArray, List.getElem_cons_succ, List.getElem_cons_zero, List.setIfInBounds_toArray, List.set_cons_zero, List.set_cons_succ]
    refine wpAnyH_take (i := 13) (oi := ?oiq62) (v := (.int .i64 (m - l))) ?hiq62 (by kernel_rfl) (by kernel_rfl) (by kernel_rfl) ?hqq62 ?hyq62 hHeld ?restq62
    case hiq62 => exact rfl
    case hqq62 => exact fun _ _ _ h => h
    case hyq62 =>
      refine Or.inl ⟨by rfl, ?_⟩
      intro w hSw
      go_simp
      (try with_reducible rfl)
    try simp only [Act.put, List.getElem_toArray, List.getElem_cons_succ, List.getElem_cons_zero, List.setIfInBounds_toArray, List.set_cons_zero, List.set_cons_succ]
    refine wpAnyH_ready (rs := [5]) (by kernel_rfl) (by simp) ?_
    refine AllReadyH.cons (o := ?or69_5) ?hr69_5 ?kr69_5 AllReadyH.nil
    case hr69_5 => exact rfl
    case kr69_5 =>
      intro K hK
      go_simp
      refine (HBO.out _ (HL.out.below hHeld.below (Nat.le_refl _)) (HH.out.below hHeld.below (Nat.le_refl _))).mono ?_
      rintro e w7 ⟨rfl, hB7⟩
      refine hK.out _ _ (hHeld.low hB7) (fun hHeld => ?_)
      clear hK K
      try simp only [Act.put, List.getElem_toArray, List.getElem_cons_succ, List.getElem_cons_zero, List.setIfInBounds_toArray, List.set_cons_zero, List.set_cons_succ]
      refine wpAnyH_ready (rs := [6]) (by kernel_rfl) (by simp) ?_
      refine AllReadyH.cons (o := ?or68_6) ?hr68_6 ?kr68_6 AllReadyH.nil
      case hr68_6 => exact rfl
      case kr68_6 =>
        intro K hK
        go_simp
        refine (HE.out _ (HP.out.below hHeld.below (Nat.le_refl _))).mono ?_
        rintro e w8 ⟨rfl, hB8⟩
        refine hK.out _ _ (hHeld.low hB8) (fun hHeld => ?_)
        clear hK K
        try simp only [Act.put, List.getElem_toArray, List.getElem_cons_succ, List.getElem_cons_zero, List.setIfInBounds_toArray, List.set_cons_zero, List.set_cons_succ]
        refine wpAnyH_take (i := 9) (oi := ?oiq66) (v := ?vq66) ?hiq66 (by kernel_rfl) (by kernel_rfl) (by kernel_rfl) ?hqq66 ?hyq66 hHeld ?restq66
        case hiq66 => exact rfl
        case hqq66 => exact fun _ _ _ h => h
        case hyq66 =>
          refine Or.inl ⟨by rfl, ?_⟩
          intro w hSw
          go_simp
          (try with_reducible rfl)
        try simp only [Act.put, List.getElem_toArray, List.getElem_cons_succ, List.getElem_cons_zero, List.setIfInBounds_toArray, List.set_cons_zero, List.set_cons_succ]
        refine wpAnyH_ready (rs := [10]) (by kernel_rfl) (by simp) ?_
        refine AllReadyH.cons (o := ?or67_10) ?hr67_10 ?kr67_10 AllReadyH.nil
        case hr67_10 => exact rfl
        case kr67_10 =>
          intro K hK
          go_simp
          refine (HWD.out _).mono ?_
          rintro e w9 ⟨rfl, hB9⟩
          refine hK.out _ _ (hHeld.low hB9) (fun hHeld => ?_)
          clear hK K
          try simp only [Act.put, List.getElem_toArray, List.getElem_cons_succ, List.getElem_cons_zero, List.setIfInBounds_toArray, List.set_cons_zero, List.set_cons_succ]
          refine wpAnyH_take (i := 14) (oi := ?oiq63) (v := (.int .i64 (yo.hi - yo.lo - (m - l)))) ?hiq63 (by kernel_rfl) (by kernel_rfl) (by kernel_rfl) ?hqq63 ?hyq63 hHeld ?restq63
          case hiq63 => exact rfl
          case hqq63 => exact fun _ _ _ h => h
          case hyq63 =>
            refine Or.inl ⟨by rfl, ?_⟩
            intro w hSw
            go_simp
            (try with_reducible rfl)
          try simp only [Act.put, List.getElem_toArray, List.getElem_cons_succ, List.getElem_cons_zero, List.setIfInBounds_toArray, List.set_cons_zero, List.set_cons_succ]
          refine wpAnyH_take (i := 15) (oi := ?oiq64) (v := ?vq64) ?hiq64 (by kernel_rfl) (by kernel_rfl) (by kernel_rfl) ?hqq64 ?hyq64 hHeld ?restq64
          case hiq64 => exact rfl
          case hqq64 => exact fun _ _ _ h => h
          case hyq64 =>
            refine Or.inl ⟨by rfl, ?_⟩
            intro w hSw
            go_simp
            (try with_reducible rfl)
          try simp only [Act.put, List.getElem_toArray, List.getElem_cons_succ, List.getElem_cons_zero, List.setIfInBounds_toArray, List.set_cons_zero, List.set_cons_succ]
          refine wpAnyH_take (i := 16) (oi := ?oiq65) (v := ?vq65) ?hiq65 (by kernel_rfl) (by kernel_rfl) (by kernel_rfl) ?hqq65 ?hyq65 hHeld ?restq65
          case hiq65 => exact rfl
          case hqq65 => exact fun _ _ _ h => h
          case hyq65 =>
            refine Or.inl ⟨by rfl, ?_⟩
            intro w hSw
            go_simp
            (try with_reducible rfl)
          try simp only [Act.put, List.getElem_toArray, List.getElem_cons_succ, List.getElem_cons_zero, List.setIfInBounds_toArray, List.set_cons_zero, List.set_cons_succ]
          have HBF := Lib.hid hHeld.below
          refine wpAnyH_done (by kernel_rfl) ?_ _
          clear hHeld
          go_wp2_with fail
          go_ret2
          exact ⟨rfl, HBF.out⟩
  · rw [show lsA ps lo hi out mn mx = 0 by unfold lsA; rw [if_neg hz]]
    have hz1 : (vpc ps lo hi out mn mx != 0) = true := by simpa using hz
    have hz2 : (vpc ps lo hi out mn mx == 0) = false := by simpa using hz
    generalize vpc ps lo hi out mn mx = c at *
    clear hz hp hl hh hm hm2
    have x0 := HI.out.c0
    have x1 := HI.out.c1
    have x2 := HI.out.c2
    have x3 := HI.out.c3
    have x4 := HI.out.c4
    go_enter Try.func27, Try.ntmps27
    go_wp2_with fail
    refine (HV.out _ (HP.out.below HI.out.below (Nat.le_refl _)) (HL.out.below HI.out.below (Nat.le_refl _)) (HH.out.below HI.out.below (Nat.le_refl _))).mono ?_
    rintro e w1 ⟨rfl, hB⟩
    have HI1 := Lib.hid (HI.out.low hB)
    clear HI hB x0 x1 x2 x3 x4
    go_wp2_with fail
    go_ret2
    exact ⟨rfl, HI1.out.below⟩

set_option maxRecDepth 100000 in
set_option maxHeartbeats 8000000 in
theorem rLoss_any (a a1 b1 : Option Addr) (ca c1 c2 : Nat) (ps : List L) (lo hi : List Int) (out mn mx : Int) (w : World) (hp : LinesAt w a ps) (hl : IntsAt w a1 lo) (hh : IntsAt w b1 hi) :
    Calls Try.prog 28 #[.slice a ps.length ca, .agg #[.slice a1 lo.length c1, .slice b1 hi.length c2, .int .i64 out, .int .i64 mn, .int .i64 mx]] w fun e w' => e = .returned (.tuple #[.int .i64 (lsA ps lo hi out mn mx), .int .i64 (vpc ps lo hi out mn mx)]) ∧ Below w.heap.size w w' := by
  have HI := Lib.hid (boxC_new (a := a1) (b := b1) (n := lo.length) (m := hi.length) (ca := c1) (cb := c2) (out := out) (mn := mn) (mx := mx) w)
  have HV := Lib.hid (fun w hp hl hh => rExtremes_any a a1 b1 ca c1 c2 ps lo hi out mn mx w hp hl hh)
  have HP := Lib.hid hp
  have HL := Lib.hid hl
  have HH := Lib.hid hh
  by_cases hz : vpc ps lo hi out mn mx = 0
  · obtain ⟨z1, z2⟩ := vpc_ok hz
    have hcon := (vcon_ok z2).1
    obtain ⟨q1, q2, q3, q4, q5, q6, q7⟩ := isCon_ok hcon
    have h4 := (vs_ok q1).1
    have k4 := (vs_ok q2).1
    have hok := okB_conV z2
    obtain ⟨o0, o3⟩ := isReg_iff.1 q4
    have hoe := end_ok (vp_ok z1).2 hok
    have hg := hoe.g o0 o3
    obtain ⟨⟨_, _⟩, ⟨_, _⟩, _⟩ := okG_iff.1 hg
    obtain ⟨e1, e2, e3⟩ := ex_in hz
    rw [show lsA ps lo hi out mn mx = ((gAt (endB ps (conB lo hi)) out).hi - (gAt (endB ps (conB lo hi)) out).lo) - ((exV ps lo hi out mn mx).2 - (exV ps lo hi out mn mx).1) by unfold lsA; rw [if_pos hz], hz]
    have t1 : out < 4 := by omega
    have u1 : out.toNat < 4 := by omega
    rw [hz, h4, k4] at HV
    rw [h4, k4] at HI
    rw [h4, k4]
    have HOF := Lib.hid (fun w h1 h2 => rof_any a1 b1 c1 c2 lo hi out mn mx w h1 h2 h4 k4)
    have HA := Lib.hid (fun a2 cb w h1 h2 => rafter_any a a2 ca cb ps (conB lo hi) w h1 h2 z1 hok)
    have y4 := hoe.l4
    unfold GivesRg at HOF HA
    rw [hok.l4] at HOF
    rw [y4, hok.l4] at HA
    generalize (exV ps lo hi out mn mx).1 = l at *
    generalize (exV ps lo hi out mn mx).2 = m at *
    generalize endB ps (conB lo hi) = y at *
    generalize conB lo hi = B at *
    obtain ⟨yo, hyo⟩ := get_of_lt (show out.toNat < y.length by omega)
    have eg : gAt y out = yo := getD_of_get hyo
    have GC0 := Lib.hid (gc_get hyo)
    clear hyo
    subst eg
    generalize gAt y out = yo at *
    have hw1 : IntKind.i64.wrap (m - l) = m - l := IntWalk.i64_in _ (by omega)
    have hw2 : IntKind.i64.wrap (yo.hi - yo.lo - (m - l)) = yo.hi - yo.lo - (m - l) := IntWalk.i64_in _ (by omega)
    have hw3 : IntKind.i64.wrap (yo.hi - yo.lo) = yo.hi - yo.lo := IntWalk.i64_in _ (by omega)
    clear hz z1 z2 hcon q1 q2 q3 q4 q5 q6 q7 h4 k4 hok hoe hg hp hl hh y4
    have x0 := HI.out.c0
    have x1 := HI.out.c1
    have x2 := HI.out.c2
    have x3 := HI.out.c3
    have x4 := HI.out.c4
    go_enter Try.func28, Try.ntmps28
    go_wp2_with fail
    refine (HV.out _ (HP.out.below HI.out.below (Nat.le_refl _)) (HL.out.below HI.out.below (Nat.le_refl _)) (HH.out.below HI.out.below (Nat.le_refl _))).mono ?_
    rintro e w1 ⟨rfl, hB⟩
    have HI1 := Lib.hid (HI.out.low hB)
    clear HI hB x0 x1 x2 x3 x4
    have x0 := HI1.out.c0
    have x1 := HI1.out.c1
    have x2 := HI1.out.c2
    have x3 := HI1.out.c3
    have x4 := HI1.out.c4
    go_wp2_with fail
    clear x0 x1 x2 x3 x4
    refine wp_region_held_drew (S := (fun W => BoxC w.heap.size a1 b1 4 4 c1 c2 out mn mx w W)) (by kernel_rfl) ?_ (fun hHeld => ?_)
    · exact HI1.out.drew
    generalize World.drew w1 = Wd at *
    refine wpAnyH_take (i := 0) (oi := ?oiq70) (v := ?vq70) ?hiq70 (by kernel_rfl) (by kernel_rfl) (by kernel_rfl) ?hqq70 ?hyq70 hHeld ?restq70
    case hiq70 => exact rfl
    case hqq70 => exact fun _ _ _ h => h
    case hyq70 =>
      refine Or.inl ⟨by rfl, ?_⟩
      intro w hSw
      go_simp
      (try with_reducible rfl)
    try simp only [Act.put, List.getElem_toArray, List.getElem_cons_succ, List.getElem_cons_zero, List.setIfInBounds_toArray, List.set_cons_zero, List.set_cons_succ]
    refine wpAnyH_take (i := 1) (oi := ?oiq71) (v := ?vq71) ?hiq71 (by kernel_rfl) (by kernel_rfl) (by kernel_rfl) ?hqq71 ?hyq71 hHeld ?restq71
    case hiq71 => exact rfl
    case hqq71 => exact fun _ _ _ h => h
    case hyq71 =>
      refine Or.inl ⟨by rfl, ?_⟩
      intro w hSw
      have z0 := hSw.c0
      have z1 := hSw.c1
      have z2 := hSw.c2
      have z3 := hSw.c3
      have z4 := hSw.c4
      go_simp
      (try with_reducible rfl)
    try simp only [Act.put, List.getElem_toArray, List.getElem_cons_succ, List.getElem_cons_zero, List.setIfInBounds_toArray, List.set_cons_zero, List.set_cons_succ]
    refine wpAnyH_take (i := 4) (oi := ?oiq72) (v := ?vq72) ?hiq72 (by kernel_rfl) (by kernel_rfl) (by kernel_rfl) ?hqq72 ?hyq72 hHeld ?restq72
    case hiq72 => exact rfl
    case hqq72 => exact fun _ _ _ h => h
    case hyq72 =>
      refine Or.inl ⟨by rfl, ?_⟩
      intro w hSw
      go_simp
      (try with_reducible rfl)
    try simp only [Act.put, List.getElem_toArray, List.getElem_cons_succ, List.getElem_cons_zero, List.setIfInBounds_toArray, List.set_cons_zero, List.set_cons_succ]
    refine wpAnyH_take (i := 5) (oi := ?oiq73) (v := (.int .i64 out)) ?hiq73 (by kernel_rfl) (by kernel_rfl) (by kernel_rfl) ?hqq73 ?hyq73 hHeld ?restq73
    case hiq73 => exact rfl
    case hqq73 => exact fun _ _ _ h => h
    case hyq73 =>
      refine Or.inl ⟨by rfl, ?_⟩
      intro w hSw
      have z2 := hSw.c2
      go_simp
      (try with_reducible rfl)
    try simp only [Act.put, List.getElem_toArray, List.getElem_cons_succ, List.getElem_cons_zero, List.setIfInBounds_toArray, List.set_cons_zero, List.set_cons_succ]
    refine wpAnyH_ready (rs := [2, 8]) (by kernel_rfl) (by simp) ?_
    refine AllReadyH.cons (o := ?or90_2) ?hr90_2 ?kr90_2 (AllReadyH.cons (o := ?or90_8) ?hr90_8 ?kr90_8 AllReadyH.nil)
    case hr90_2 => exact rfl
    case hr90_8 => exact rfl
    case kr90_2 =>
      intro K hK
      go_simp
      refine (HOF.out _ (HL.out.below hHeld.below (Nat.le_refl _)) (HH.out.below hHeld.below (Nat.le_refl _))).mono ?_
      intro e w7 hG
      obtain ⟨ao, co, rfl, hoo, hBw7⟩ := hG
      have HR8 := Lib.hid (ranges_of_own hoo).1
      clear hoo
      refine hK.out _ _ (hHeld.low hBw7) (fun hHeld => ?_)
      clear hK K
      try simp only [Act.put, List.getElem_toArray, List.getElem_cons_succ, List.getElem_cons_zero, List.setIfInBounds_toArray, List.set_cons_zero, List.set_cons_succ]
      refine wpAnyH_ready (rs := [3, 8]) (by kernel_rfl) (by simp) ?_
      refine AllReadyH.cons (o := ?or84_3) ?hr84_3 ?kr84_3 (AllReadyH.cons (o := ?or84_8) ?hr84_8 ?kr84_8 AllReadyH.nil)
      case hr84_3 => exact rfl
      case hr84_8 => exact rfl
      case kr84_3 =>
        intro K hK
        go_simp
        refine (HA.out _ _ _ (HP.out.below hHeld.below (Nat.le_refl _)) HR8.out).mono ?_
        intro e w8 hG
        obtain ⟨ay, cy, rfl, hoy, hBw8⟩ := hG
        obtain ⟨gy, rfl⟩ := own_form hoy (by omega)
        have HQ0 := Lib.hid (own_cell hoy GC0.out.1)
        have HQ1 := Lib.hid (own_cell hoy GC0.out.2)
        clear hoy
        refine hK.out _ _ (hHeld.low hBw8) (fun hHeld => ?_)
        clear hK K
        try simp only [Act.put, List.getElem_toArray, List.getElem_cons_succ, List.getElem_cons_zero, List.setIfInBounds_toArray, List.set_cons_zero, List.set_cons_succ]
        refine wpAnyH_take (i := 6) (oi := ?oiq74) (v := ?vq74) ?hiq74 (by kernel_rfl) (by kernel_rfl) (by kernel_rfl) ?hqq74 ?hyq74 hHeld ?restq74
        case hiq74 => exact rfl
        case hqq74 => exact fun _ _ _ h => h
        case hyq74 =>
          refine Or.inl ⟨by rfl, ?_⟩
          intro w hSw
          go_simp
          (try with_reducible rfl)
        try simp only [Act.put, List.getElem_toArray, List.getElem_cons_succ, List.getElem_cons_zero, List.setIfInBounds_toArray, List.set_cons_zero, List.set_cons_succ]
        refine wpAnyH_ready (rs := [7, 8]) (by kernel_rfl) (by simp) ?_
        refine AllReadyH.cons (o := ?or79_7) ?hr79_7 ?kr79_7 (AllReadyH.cons (o := ?or79_8) ?hr79_8 ?kr79_8 AllReadyH.nil)
        case hr79_7 => exact rfl
        case hr79_8 => exact rfl
        case kr79_7 =>
          intro K hK
          have q0 := HQ0.out
          have q1 := HQ1.out
          go_simp
          clear q0 q1
          refine hK.out _ _ hHeld (fun hHeld => ?_)
          clear hK K
          try simp only [Act.put, List.getElem_toArray, List.getElem_cons_succ, List.getElem_cons_zero, List.setIfInBounds_toArray, List.set_cons_zero, List.set_cons_succ]
          refine wpAnyH_ready (rs := [8]) (by kernel_rfl) (by simp) ?_
          refine AllReadyH.cons (o := ?or76_8) ?hr76_8 ?kr76_8 AllReadyH.nil
          case hr76_8 => exact rfl
          case kr76_8 =>
            intro K hK
            go_simp
            have HN := Lib.hid (show (w8.alloc (.cells #[.int .i64 0, .int .i64 0] 52)).heap[w8.heap.size]? = _ from hp_new rfl)
            have hLA : w.heap.size < w8.heap.size := hp_lt hHeld.bl
            have HQ0 := Lib.hid (cell_alloc_keep (o := (.cells #[.int .i64 0, .int .i64 0] 52)) HQ0.out)
            have HQ1 := Lib.hid (cell_alloc_keep (o := (.cells #[.int .i64 0, .int .i64 0] 52)) HQ1.out)
            refine hK.out _ _ (hHeld.low ((Below.refl _ _).alloc (Nat.le_refl _) _)) (fun hHeld => ?_)
            clear hK K
            try simp only [Act.put, List.getElem_toArray, List.getElem_cons_succ, List.getElem_cons_zero, List.setIfInBounds_toArray, List.set_cons_zero, List.set_cons_succ]
            generalize hV7 : w8.alloc _ = wa7 at *
            generalize hLq7 : w8.heap.size = LA at *
            clear hV7 hLq7
            refine wpAnyH_ready (rs := [9]) (by kernel_rfl) (by simp) ?_
            refine AllReadyH.cons (o := ?or75_9) ?hr75_9 ?kr75_9 AllReadyH.nil
            case hr75_9 => exact rfl
            case kr75_9 =>
              intro K hK
              refine wp_store_row 52 (.tmp 9) (.tmp 27) rfl LA _ rfl rfl 52 _ HN.out (by kernel_rfl) rfl (two1 _ _) ?_
              refine hK.out _ _ (⟨hp_row hHeld.bl (by omega) _, below_setRow hHeld.below (by omega) _⟩) (fun hHeld => ?_)
              clear hK K
              try simp only [Act.put, List.getElem_toArray, List.getElem_cons_succ, List.getElem_cons_zero, List.setIfInBounds_toArray, List.set_cons_zero, List.set_cons_succ]
              have HFX := Lib.hid (hp_row_same HN.out #[.int .i64 yo.lo, .int .i64 yo.hi])
              have HIX := Lib.hid hHeld
              refine wpAnyH_done (by kernel_rfl) ?_ _
              clear hHeld
              generalize World.setRow _ _ _ = WF at *
              have y0 := hp_cell HFX.out (j := 0) rfl
              have y1 := hp_cell HFX.out (j := 1) rfl
              go_wp2_with fail
              go_ret2
              exact ⟨rfl, HIX.out.below⟩
        case kr79_8 =>
          intro K hK
          go_simp
          have HN := Lib.hid (show (w8.alloc (.cells #[.int .i64 0, .int .i64 0] 52)).heap[w8.heap.size]? = _ from hp_new rfl)
          have hLA : w.heap.size < w8.heap.size := hp_lt hHeld.bl
          have HQ0 := Lib.hid (cell_alloc_keep (o := (.cells #[.int .i64 0, .int .i64 0] 52)) HQ0.out)
          have HQ1 := Lib.hid (cell_alloc_keep (o := (.cells #[.int .i64 0, .int .i64 0] 52)) HQ1.out)
          refine hK.out _ _ (hHeld.low ((Below.refl _ _).alloc (Nat.le_refl _) _)) (fun hHeld => ?_)
          clear hK K
          try simp only [Act.put, List.getElem_toArray, List.getElem_cons_succ, List.getElem_cons_zero, List.setIfInBounds_toArray, List.set_cons_zero, List.set_cons_succ]
          generalize hV8 : w8.alloc _ = wa8 at *
          generalize hLq8 : w8.heap.size = LA at *
          clear hV8 hLq8
          refine wpAnyH_ready (rs := [7]) (by kernel_rfl) (by simp) ?_
          refine AllReadyH.cons (o := ?or78_7) ?hr78_7 ?kr78_7 AllReadyH.nil
          case hr78_7 => exact rfl
          case kr78_7 =>
            intro K hK
            have q0 := HQ0.out
            have q1 := HQ1.out
            go_simp
            clear q0 q1
            refine hK.out _ _ hHeld (fun hHeld => ?_)
            clear hK K
            try simp only [Act.put, List.getElem_toArray, List.getElem_cons_succ, List.getElem_cons_zero, List.setIfInBounds_toArray, List.set_cons_zero, List.set_cons_succ]
            refine wpAnyH_ready (rs := [9]) (by kernel_rfl) (by simp) ?_
            refine AllReadyH.cons (o := ?or77_9) ?hr77_9 ?kr77_9 AllReadyH.nil
            case hr77_9 => exact rfl
            case kr77_9 =>
              intro K hK
              refine wp_store_row 52 (.tmp 9) (.tmp 27) rfl LA _ rfl rfl 52 _ HN.out (by kernel_rfl) rfl (two1 _ _) ?_
              refine hK.out _ _ (⟨hp_row hHeld.bl (by omega) _, below_setRow hHeld.below (by omega) _⟩) (fun hHeld => ?_)
              clear hK K
              try simp only [Act.put, List.getElem_toArray, List.getElem_cons_succ, List.getElem_cons_zero, List.setIfInBounds_toArray, List.set_cons_zero, List.set_cons_succ]
              have HFX := Lib.hid (hp_row_same HN.out #[.int .i64 yo.lo, .int .i64 yo.hi])
              have HIX := Lib.hid hHeld
              refine wpAnyH_done (by kernel_rfl) ?_ _
              clear hHeld
              generalize World.setRow _ _ _ = WF at *
              have y0 := hp_cell HFX.out (j := 0) rfl
              have y1 := hp_cell HFX.out (j := 1) rfl
              go_wp2_with fail
              go_ret2
              exact ⟨rfl, HIX.out.below⟩
      case kr84_8 =>
        intro K hK
        go_simp
        have HN := Lib.hid (show (w7.alloc (.cells #[.int .i64 0, .int .i64 0] 52)).heap[w7.heap.size]? = _ from hp_new rfl)
        have hLA : w.heap.size < w7.heap.size := hp_lt hHeld.bl
        have HR8 := Lib.hid (HR8.out.below ((Below.refl _ _).alloc (Nat.le_refl _) (.cells #[.int .i64 0, .int .i64 0] 52)) (Nat.le_refl _))
        refine hK.out _ _ (hHeld.low ((Below.refl _ _).alloc (Nat.le_refl _) _)) (fun hHeld => ?_)
        clear hK K
        try simp only [Act.put, List.getElem_toArray, List.getElem_cons_succ, List.getElem_cons_zero, List.setIfInBounds_toArray, List.set_cons_zero, List.set_cons_succ]
        generalize hV9 : w7.alloc _ = wa9 at *
        generalize hLq9 : w7.heap.size = LA at *
        clear hV9 hLq9
        refine wpAnyH_ready (rs := [3]) (by kernel_rfl) (by simp) ?_
        refine AllReadyH.cons (o := ?or83_3) ?hr83_3 ?kr83_3 AllReadyH.nil
        case hr83_3 => exact rfl
        case kr83_3 =>
          intro K hK
          go_simp
          refine (HA.out _ _ _ (HP.out.below hHeld.below (Nat.le_refl _)) HR8.out).mono ?_
          intro e w8 hG
          obtain ⟨ay, cy, rfl, hoy, hBw8⟩ := hG
          obtain ⟨gy, rfl⟩ := own_form hoy (by omega)
          have HQ0 := Lib.hid (own_cell hoy GC0.out.1)
          have HQ1 := Lib.hid (own_cell hoy GC0.out.2)
          clear hoy
          replace HN := Lib.hid (hp_below HN.out hBw8 (hp_lt HN.out))
          refine hK.out _ _ (hHeld.low hBw8) (fun hHeld => ?_)
          clear hK K
          try simp only [Act.put, List.getElem_toArray, List.getElem_cons_succ, List.getElem_cons_zero, List.setIfInBounds_toArray, List.set_cons_zero, List.set_cons_succ]
          refine wpAnyH_take (i := 6) (oi := ?oiq80) (v := ?vq80) ?hiq80 (by kernel_rfl) (by kernel_rfl) (by kernel_rfl) ?hqq80 ?hyq80 hHeld ?restq80
          case hiq80 => exact rfl
          case hqq80 => exact fun _ _ _ h => h
          case hyq80 =>
            refine Or.inl ⟨by rfl, ?_⟩
            intro w hSw
            go_simp
            (try with_reducible rfl)
          try simp only [Act.put, List.getElem_toArray, List.getElem_cons_succ, List.getElem_cons_zero, List.setIfInBounds_toArray, List.set_cons_zero, List.set_cons_succ]
          refine wpAnyH_ready (rs := [7]) (by kernel_rfl) (by simp) ?_
          refine AllReadyH.cons (o := ?or82_7) ?hr82_7 ?kr82_7 AllReadyH.nil
          case hr82_7 => exact rfl
          case kr82_7 =>
            intro K hK
            have q0 := HQ0.out
            have q1 := HQ1.out
            go_simp
            clear q0 q1
            refine hK.out _ _ hHeld (fun hHeld => ?_)
            clear hK K
            try simp only [Act.put, List.getElem_toArray, List.getElem_cons_succ, List.getElem_cons_zero, List.setIfInBounds_toArray, List.set_cons_zero, List.set_cons_succ]
            refine wpAnyH_ready (rs := [9]) (by kernel_rfl) (by simp) ?_
            refine AllReadyH.cons (o := ?or81_9) ?hr81_9 ?kr81_9 AllReadyH.nil
            case hr81_9 => exact rfl
            case kr81_9 =>
              intro K hK
              refine wp_store_row 52 (.tmp 9) (.tmp 27) rfl LA _ rfl rfl 52 _ HN.out (by kernel_rfl) rfl (two1 _ _) ?_
              refine hK.out _ _ (⟨hp_row hHeld.bl (by omega) _, below_setRow hHeld.below (by omega) _⟩) (fun hHeld => ?_)
              clear hK K
              try simp only [Act.put, List.getElem_toArray, List.getElem_cons_succ, List.getElem_cons_zero, List.setIfInBounds_toArray, List.set_cons_zero, List.set_cons_succ]
              have HFX := Lib.hid (hp_row_same HN.out #[.int .i64 yo.lo, .int .i64 yo.hi])
              have HIX := Lib.hid hHeld
              refine wpAnyH_done (by kernel_rfl) ?_ _
              clear hHeld
              generalize World.setRow _ _ _ = WF at *
              have y0 := hp_cell HFX.out (j := 0) rfl
              have y1 := hp_cell HFX.out (j := 1) rfl
              go_wp2_with fail
              go_ret2
              exact ⟨rfl, HIX.out.below⟩
    case kr90_8 =>
      intro K hK
      go_simp
      have HN := Lib.hid (show (Wd.alloc (.cells #[.int .i64 0, .int .i64 0] 52)).heap[Wd.heap.size]? = _ from hp_new rfl)
      have hLA : w.heap.size < Wd.heap.size := hp_lt hHeld.bl
      refine hK.out _ _ (hHeld.low ((Below.refl _ _).alloc (Nat.le_refl _) _)) (fun hHeld => ?_)
      clear hK K
      try simp only [Act.put, List.getElem_toArray, List.getElem_cons_succ, List.getElem_cons_zero, List.setIfInBounds_toArray, List.set_cons_zero, List.set_cons_succ]
      generalize hV10 : Wd.alloc _ = wa10 at *
      generalize hLq10 : Wd.heap.size = LA at *
      clear hV10 hLq10
      refine wpAnyH_ready (rs := [2]) (by kernel_rfl) (by simp) ?_
      refine AllReadyH.cons (o := ?or89_2) ?hr89_2 ?kr89_2 AllReadyH.nil
      case hr89_2 => exact rfl
      case kr89_2 =>
        intro K hK
        go_simp
        refine (HOF.out _ (HL.out.below hHeld.below (Nat.le_refl _)) (HH.out.below hHeld.below (Nat.le_refl _))).mono ?_
        intro e w7 hG
        obtain ⟨ao, co, rfl, hoo, hBw7⟩ := hG
        have HR8 := Lib.hid (ranges_of_own hoo).1
        clear hoo
        replace HN := Lib.hid (hp_below HN.out hBw7 (hp_lt HN.out))
        refine hK.out _ _ (hHeld.low hBw7) (fun hHeld => ?_)
        clear hK K
        try simp only [Act.put, List.getElem_toArray, List.getElem_cons_succ, List.getElem_cons_zero, List.setIfInBounds_toArray, List.set_cons_zero, List.set_cons_succ]
        refine wpAnyH_ready (rs := [3]) (by kernel_rfl) (by simp) ?_
        refine AllReadyH.cons (o := ?or88_3) ?hr88_3 ?kr88_3 AllReadyH.nil
        case hr88_3 => exact rfl
        case kr88_3 =>
          intro K hK
          go_simp
          refine (HA.out _ _ _ (HP.out.below hHeld.below (Nat.le_refl _)) HR8.out).mono ?_
          intro e w8 hG
          obtain ⟨ay, cy, rfl, hoy, hBw8⟩ := hG
          obtain ⟨gy, rfl⟩ := own_form hoy (by omega)
          have HQ0 := Lib.hid (own_cell hoy GC0.out.1)
          have HQ1 := Lib.hid (own_cell hoy GC0.out.2)
          clear hoy
          replace HN := Lib.hid (hp_below HN.out hBw8 (hp_lt HN.out))
          refine hK.out _ _ (hHeld.low hBw8) (fun hHeld => ?_)
          clear hK K
          try simp only [Act.put, List.getElem_toArray, List.getElem_cons_succ, List.getElem_cons_zero, List.setIfInBounds_toArray, List.set_cons_zero, List.set_cons_succ]
          refine wpAnyH_take (i := 6) (oi := ?oiq85) (v := ?vq85) ?hiq85 (by kernel_rfl) (by kernel_rfl) (by kernel_rfl) ?hqq85 ?hyq85 hHeld ?restq85
          case hiq85 => exact rfl
          case hqq85 => exact fun _ _ _ h => h
          case hyq85 =>
            refine Or.inl ⟨by rfl, ?_⟩
            intro w hSw
            go_simp
            (try with_reducible rfl)
          try simp only [Act.put, List.getElem_toArray, List.getElem_cons_succ, List.getElem_cons_zero, List.setIfInBounds_toArray, List.set_cons_zero, List.set_cons_succ]
          refine wpAnyH_ready (rs := [7]) (by kernel_rfl) (by simp) ?_
          refine AllReadyH.cons (o := ?or87_7) ?hr87_7 ?kr87_7 AllReadyH.nil
          case hr87_7 => exact rfl
          case kr87_7 =>
            intro K hK
            have q0 := HQ0.out
            have q1 := HQ1.out
            go_simp
            clear q0 q1
            refine hK.out _ _ hHeld (fun hHeld => ?_)
            clear hK K
            try simp only [Act.put, List.getElem_toArray, List.getElem_cons_succ, List.getElem_cons_zero, List.setIfInBounds_toArray, List.set_cons_zero, List.set_cons_succ]
            refine wpAnyH_ready (rs := [9]) (by kernel_rfl) (by simp) ?_
            refine AllReadyH.cons (o := ?or86_9) ?hr86_9 ?kr86_9 AllReadyH.nil
            case hr86_9 => exact rfl
            case kr86_9 =>
              intro K hK
              refine wp_store_row 52 (.tmp 9) (.tmp 27) rfl LA _ rfl rfl 52 _ HN.out (by kernel_rfl) rfl (two1 _ _) ?_
              refine hK.out _ _ (⟨hp_row hHeld.bl (by omega) _, below_setRow hHeld.below (by omega) _⟩) (fun hHeld => ?_)
              clear hK K
              try simp only [Act.put, List.getElem_toArray, List.getElem_cons_succ, List.getElem_cons_zero, List.setIfInBounds_toArray, List.set_cons_zero, List.set_cons_succ]
              have HFX := Lib.hid (hp_row_same HN.out #[.int .i64 yo.lo, .int .i64 yo.hi])
              have HIX := Lib.hid hHeld
              refine wpAnyH_done (by kernel_rfl) ?_ _
              clear hHeld
              generalize World.setRow _ _ _ = WF at *
              have y0 := hp_cell HFX.out (j := 0) rfl
              have y1 := hp_cell HFX.out (j := 1) rfl
              go_wp2_with fail
              go_ret2
              exact ⟨rfl, HIX.out.below⟩
  · rw [show lsA ps lo hi out mn mx = 0 by unfold lsA; rw [if_neg hz]]
    have hz1 : (vpc ps lo hi out mn mx != 0) = true := by simpa using hz
    have hz2 : (vpc ps lo hi out mn mx == 0) = false := by simpa using hz
    rw [exV_no hz] at HV
    generalize vpc ps lo hi out mn mx = c at *
    clear hz hp hl hh
    have x0 := HI.out.c0
    have x1 := HI.out.c1
    have x2 := HI.out.c2
    have x3 := HI.out.c3
    have x4 := HI.out.c4
    go_enter Try.func28, Try.ntmps28
    go_wp2_with fail
    refine (HV.out _ (HP.out.below HI.out.below (Nat.le_refl _)) (HL.out.below HI.out.below (Nat.le_refl _)) (HH.out.below HI.out.below (Nat.le_refl _))).mono ?_
    rintro e w1 ⟨rfl, hB⟩
    have HI1 := Lib.hid (HI.out.low hB)
    clear HI hB x0 x1 x2 x3 x4
    go_wp2_with fail
    go_ret2
    exact ⟨rfl, HI1.out.below⟩

end Go.Proofs.Ytmpgaccpdglhkaa

/- SpanLosses: the walk. -/
set_option linter.unusedVariables false
set_option linter.unusedSimpArgs false
namespace Go.Proofs.Ytmpgaccpdglhkaa
open Go.RowKit Tinker

set_option maxRecDepth 100000 in
set_option maxHeartbeats 8000000 in
theorem spanLosses_walk (g : Option Addr) (cg : Nat) (ps : List L) (a : Option Addr) (ca : Nat) (lo : List Int) (b : Option Addr) (cb : Nat) (hi : List Int) (out mn mx : Int) (w : World) (hp : LinesAt w g ps) (hcg : g = none → cg = 0) (hl : IntsAt w a lo) (hc : a = none → ca = 0) (hh : IntsAt w b hi) (hd : b = none → cb = 0) :
    Calls Try.prog 6 #[.slice g ps.length cg, .agg #[.slice a lo.length ca, .slice b hi.length cb, .int .i64 out, .int .i64 mn, .int .i64 mx]] w fun e w' => e = .returned (.bool true) ∧ Below w.heap.size w w' := by
  clear hc hd hcg
  have HLG := Lib.hid (fun w => long_any g ps.length cg w)
  have HW := Lib.hid (fun w => wide_any a b ca cb lo.length hi.length out mn mx w)
  have HI := Lib.hid (boxC_new (a := a) (b := b) (n := lo.length) (m := hi.length) (ca := ca) (cb := cb) (out := out) (mn := mn) (mx := mx) w)
  have x0 := HI.out.c0
  have x1 := HI.out.c1
  have x2 := HI.out.c2
  have x3 := HI.out.c3
  have x4 := HI.out.c4
  by_cases h1 : 100 < ps.length
  · rw [show decide ((100 : Int) < (ps.length : Int)) = true from decide_eq_true (by omega)] at HLG
    clear h1 hp hl hh HW
    go_enter Try.func6, Try.ntmps6
    go_wp2_with fail
    refine (HLG.out _).mono ?_
    rintro e w0 ⟨rfl, rfl⟩
    go_wp2_with fail
    refine (known6_true _ ).mono ?_
    rintro e w1 ⟨rfl, hB⟩
    have HI := Lib.hid (HI.out.low hB)
    clear hB x0 x1 x2 x3 x4
    have x0 := HI.out.c0
    have x1 := HI.out.c1
    have x2 := HI.out.c2
    have x3 := HI.out.c3
    have x4 := HI.out.c4
    go_wp2_with fail
    go_ret
    exact ⟨rfl, HI.out.below⟩
  · have hps : ps.length ≤ 1000 := by omega
    rw [show decide ((100 : Int) < (ps.length : Int)) = false from decide_eq_false (by omega)] at HLG
    by_cases hbig : 100 < lo.length ∨ 100 < hi.length
    · rw [show decide (100 < lo.length ∨ 100 < hi.length) = true by simpa using hbig] at HW
      clear hbig hl hh hp h1
      go_enter Try.func6, Try.ntmps6
      go_wp2_with fail
      refine (HLG.out _).mono ?_
      rintro e w0 ⟨rfl, rfl⟩
      go_wp2_with fail
      refine (HW.out _ ).mono ?_
      rintro e w1 ⟨rfl, hB⟩
      have HI := Lib.hid (HI.out.low hB)
      clear hB x0 x1 x2 x3 x4
      have x0 := HI.out.c0
      have x1 := HI.out.c1
      have x2 := HI.out.c2
      have x3 := HI.out.c3
      have x4 := HI.out.c4
      go_wp2_with fail
      refine (known6_true _ ).mono ?_
      rintro e w2 ⟨rfl, hB⟩
      have HI := Lib.hid (HI.out.low hB)
      clear hB x0 x1 x2 x3 x4
      have x0 := HI.out.c0
      have x1 := HI.out.c1
      have x2 := HI.out.c2
      have x3 := HI.out.c3
      have x4 := HI.out.c4
      go_wp2_with fail
      go_ret
      exact ⟨rfl, HI.out.below⟩
    · have m1 : lo.length ≤ 1000 := by omega
      have m2 : hi.length ≤ 1000 := by omega
      rw [show decide (100 < lo.length ∨ 100 < hi.length) = false by simpa using hbig] at HW
      have HP := Lib.hid hp
      have HS := Lib.hid hl
      have HT := Lib.hid hh
      have C1 := Lib.hid (fun w h1 h2 h3 => sLoss_any g a b cg ca cb ps lo hi out mn mx w h1 h2 h3 m1 m2)
      have C2 := Lib.hid (fun w h1 h2 h3 => rLoss_any g a b cg ca cb ps lo hi out mn mx w h1 h2 h3)
      clear hbig hl hh hp h1
      by_cases hz : vpc ps lo hi out mn mx = 0
      · obtain ⟨e1, e2, e3⟩ := ex_in hz
        have hA : 0 ≤ lsA ps lo hi out mn mx := by unfold lsA; rw [if_pos hz]; omega
        have hA2 : decide (0 ≤ lsA ps lo hi out mn mx) = true := decide_eq_true hA
        rw [hz] at C1 C2
        have n4 : (lsA ps lo hi out mn mx == lsA ps lo hi out mn mx) = true := by simp
        clear e1 e2 e3 hz
        generalize lsA ps lo hi out mn mx = A at *
        go_enter Try.func6, Try.ntmps6
        go_wp2_with fail
        refine (HLG.out _).mono ?_
        rintro e w0 ⟨rfl, rfl⟩
        go_wp2_with fail
        refine (HW.out _ ).mono ?_
        rintro e w1 ⟨rfl, hB⟩
        have HI := Lib.hid (HI.out.low hB)
        clear hB x0 x1 x2 x3 x4
        have x0 := HI.out.c0
        have x1 := HI.out.c1
        have x2 := HI.out.c2
        have x3 := HI.out.c3
        have x4 := HI.out.c4
        go_wp2_with fail
        refine (C1.out _ (HP.out.below HI.out.below (Nat.le_refl _)) (HS.out.below HI.out.below (Nat.le_refl _)) (HT.out.below HI.out.below (Nat.le_refl _))).mono ?_
        rintro e w2 ⟨rfl, hB⟩
        have HI := Lib.hid (HI.out.low hB)
        clear hB x0 x1 x2 x3 x4
        have x0 := HI.out.c0
        have x1 := HI.out.c1
        have x2 := HI.out.c2
        have x3 := HI.out.c3
        have x4 := HI.out.c4
        go_wp2_with fail
        refine (C2.out _ (HP.out.below HI.out.below (Nat.le_refl _)) (HS.out.below HI.out.below (Nat.le_refl _)) (HT.out.below HI.out.below (Nat.le_refl _))).mono ?_
        rintro e w3 ⟨rfl, hB⟩
        have HI := Lib.hid (HI.out.low hB)
        clear hB x0 x1 x2 x3 x4
        have x0 := HI.out.c0
        have x1 := HI.out.c1
        have x2 := HI.out.c2
        have x3 := HI.out.c3
        have x4 := HI.out.c4
        go_wp2_with fail
        refine (known6_true _ ).mono ?_
        rintro e w4 ⟨rfl, hB⟩
        have HI := Lib.hid (HI.out.low hB)
        clear hB x0 x1 x2 x3 x4
        have x0 := HI.out.c0
        have x1 := HI.out.c1
        have x2 := HI.out.c2
        have x3 := HI.out.c3
        have x4 := HI.out.c4
        go_wp2_with fail
        go_ret
        exact ⟨rfl, HI.out.below⟩
      · have hz1 : (vpc ps lo hi out mn mx != 0) = true := by simpa using hz
        have hz2 : (vpc ps lo hi out mn mx == 0) = false := by simpa using hz
        have n3 : (vpc ps lo hi out mn mx == vpc ps lo hi out mn mx) = true := by simp
        have n4 : (lsA ps lo hi out mn mx == lsA ps lo hi out mn mx) = true := by simp
        generalize lsA ps lo hi out mn mx = A at *
        generalize vpc ps lo hi out mn mx = E at *
        clear hz
        go_enter Try.func6, Try.ntmps6
        go_wp2_with fail
        refine (HLG.out _).mono ?_
        rintro e w0 ⟨rfl, rfl⟩
        go_wp2_with fail
        refine (HW.out _ ).mono ?_
        rintro e w1 ⟨rfl, hB⟩
        have HI := Lib.hid (HI.out.low hB)
        clear hB x0 x1 x2 x3 x4
        have x0 := HI.out.c0
        have x1 := HI.out.c1
        have x2 := HI.out.c2
        have x3 := HI.out.c3
        have x4 := HI.out.c4
        go_wp2_with fail
        refine (C1.out _ (HP.out.below HI.out.below (Nat.le_refl _)) (HS.out.below HI.out.below (Nat.le_refl _)) (HT.out.below HI.out.below (Nat.le_refl _))).mono ?_
        rintro e w2 ⟨rfl, hB⟩
        have HI := Lib.hid (HI.out.low hB)
        clear hB x0 x1 x2 x3 x4
        have x0 := HI.out.c0
        have x1 := HI.out.c1
        have x2 := HI.out.c2
        have x3 := HI.out.c3
        have x4 := HI.out.c4
        go_wp2_with fail
        refine (C2.out _ (HP.out.below HI.out.below (Nat.le_refl _)) (HS.out.below HI.out.below (Nat.le_refl _)) (HT.out.below HI.out.below (Nat.le_refl _))).mono ?_
        rintro e w3 ⟨rfl, hB⟩
        have HI := Lib.hid (HI.out.low hB)
        clear hB x0 x1 x2 x3 x4
        have x0 := HI.out.c0
        have x1 := HI.out.c1
        have x2 := HI.out.c2
        have x3 := HI.out.c3
        have x4 := HI.out.c4
        go_wp2_with fail
        refine (known6_true _ ).mono ?_
        rintro e w4 ⟨rfl, hB⟩
        have HI := Lib.hid (HI.out.low hB)
        clear hB x0 x1 x2 x3 x4
        have x0 := HI.out.c0
        have x1 := HI.out.c1
        have x2 := HI.out.c2
        have x3 := HI.out.c3
        have x4 := HI.out.c4
        go_wp2_with fail
        go_ret
        exact ⟨rfl, HI.out.below⟩

end Go.Proofs.Ytmpgaccpdglhkaa
