/- Several texts in one. -/
import Derived.Test.YtmpgaccpdglhkaaGreatSrM
import Derived.Test.YtmpgaccpdglhkaaGreatChkA
import Derived.Test.YtmpgaccpdglhkaaGreatSpJ
import Derived.Test.YtmpgaccpdglhkaaGreatSrT
import Derived.Test.YtmpgaccpdglhkaaGreatSpR
import Derived.Test.YtmpgaccpdglhkaaGreatExtD
import Derived.Test.YtmpgaccpdglhkaaGreatSpM
/- Hull, Meet, half, Halves of the document: contracts. -/
set_option linter.unusedVariables false
set_option linter.unusedSimpArgs false
namespace Go.Proofs.YtmpgaccpdglhkaaGreat
open Go.RowKit Tinker

theorem boxes_blk2 {W : World} {g : Nat} {a1 a2 : Option Addr} {c1 c2 : Nat} {a b : List Rg} {t : TypeId} (h : W.heap[g]? = some (.cells #[.slice a1 4 c1, .slice a2 4 c2] t (0, 0))) (ha : RangesAt W a1 a) (hb : RangesAt W a2 b) : BoxesAt W (some ⟨g, 0, none⟩) [a, b] := by
  refine .inr ⟨g, 0, rfl, hp_lt h, fun j x hj => ?_⟩
  match j, hj with
  | 0, hj => simp at hj; subst hj; exact ⟨a1, c1, hp_cell h rfl, ha⟩
  | 1, hj => simp at hj; subst hj; exact ⟨a2, c2, hp_cell h rfl, hb⟩
  | j + 2, hj => simp at hj

theorem ranges_app2 {W1 : World} {base : Nat} {v' : Value} {ls qs : List Rg} (h : W1.ownsRow base 37 2 v' (ls.length + qs.length) (gc ls ++ gc qs)) : W1.ownsRow base 37 2 v' (ls ++ qs).length (gc (ls ++ qs)) := by
  rw [gc_append, List.length_append]; exact h
/-- append of ranges, be the other list nil or not. -/
theorem wpList_append_rg {w : World} {ops : Array Oper} {rest : List Oper} {o : Oper} {act : Act} {Q : Exit → Act → World → Prop} (hgd : o.guard = none) (s x : Operand)
    (ho : o.op = .call { callee := .builtin .append, args := #[s, x], argTypes := #[38, 38] }) (base : Nat) (v : Value) (LS : List Rg) (hs : act.eval s = v) (hown : w.ownsRow base 37 2 v LS.length (gc LS))
    (a : Option Addr) (c : Nat) (QS : List Rg) (hx : act.eval x = .slice a QS.length c) (hq : RangesAt w a QS) (hc : a = none → c = 0) (hm : LS.length + QS.length ≤ 10000) (hbase : base ≤ w.heap.size)
    (h : ∀ (v' : Value) (w' : World) (R : List Rg), Hid (R = LS ++ QS) → w'.ownsRow base 37 2 v' R.length (gc R) → (∀ B a0, Below B a0 w → B ≤ base → Below B a0 w') → wpList Tryz.prog ops Q rest (act.put o.dst v') w') : wpList Tryz.prog ops Q (o :: rest) act w := by
  obtain ⟨i0, hi, hz0, hz1, hz2⟩ := info_parts info_range
  cases a with
  | none =>
    have hq' := hq.none
    have hc' := hc rfl
    subst hq' hc'
    exact wpList_append_own_none hgd s x 38 ho base 37 i0 2 Tryz.underlying38 hi v LS.length (gc LS) hs hown hx (h v w (LS ++ []) (Lib.hid rfl) (by rw [List.append_nil]; exact hown) (fun _ _ h _ => h))
  | some ad =>
    refine wpList_append_own w hgd s x 38 ho base 37 i0 (.agg #[.int .i64 0, .int .i64 0]) 2 16 Tryz.underlying38 hi hz0 hz1 hz2 rfl (by decide) v LS.length (gc LS) hs hown ad QS.length c (gc QS) hx (gc_length _) hq.cells (gc_one _) (by simp [maxLen]; omega) (by omega) hbase ?_
    intro v' w' hown' hgrow _
    exact h v' w' (LS ++ QS) (Lib.hid rfl) (ranges_app2 hown') (fun B a0 hB hle => hB.grown hgrow (by omega) (fun k hk => Nat.le_trans hle (hown.lt k hk).1))

theorem half_eq1 {n : Int} (h : n < 0) : (n - 1).tdiv 2 = n / 2 := by
  have e : (n - 1).tdiv 2 = -((1 - n).tdiv 2) := by rw [show n - 1 = -(1 - n) by omega, Int.neg_tdiv]
  rw [e, Int.tdiv_eq_ediv_of_nonneg (by omega)]; omega
theorem half_eq2 {n : Int} (h : ¬ n < 0) : n.tdiv 2 = n / 2 := Int.tdiv_eq_ediv_of_nonneg (by omega)
end Go.Proofs.YtmpgaccpdglhkaaGreat

/- point, Point, of, Of of the document: contracts. -/
set_option linter.unusedVariables false
set_option linter.unusedSimpArgs false
namespace Go.Proofs.YtmpgaccpdglhkaaGreat
open Go.RowKit Tinker

end Go.Proofs.YtmpgaccpdglhkaaGreat

/- of, Of of the document: contracts. -/
set_option linter.unusedVariables false
set_option linter.unusedSimpArgs false
namespace Go.Proofs.YtmpgaccpdglhkaaGreat
open Go.RowKit Tinker

theorem BoxC.low1 {x : Nat} {a b : Option Addr} {n m ca cb : Nat} {out mn mx : Int} {w W W' : World} {B : Nat} (h : BoxC x a b n m ca cb out mn mx w W) (hb : Below B W W') (h1 : x < B) (h2 : w.heap.size ≤ B) : BoxC x a b n m ca cb out mn mx w W' :=
  ⟨hp_below h.bl hb h1, h.below.trans (hb.mono h2)⟩
theorem conB_len {lo hi : List Int} (h : lo.length = 4) (h2 : hi.length = 4) : (conB lo hi).length = 4 := by unfold conB; rw [List.length_zipWith, h, h2]; rfl

set_option maxRecDepth 100000 in
set_option maxHeartbeats 4000000 in
theorem rof_any (a b : Option Addr) (ca cb : Nat) (lo hi : List Int) (out mn mx : Int) (w : World) (hl : IntsAt w a lo) (hh : IntsAt w b hi) (h4 : lo.length = 4) (k4 : hi.length = 4) :
    Calls Tryz.prog 19 #[.agg #[.slice a 4 ca, .slice b 4 cb, .int .i64 out, .int .i64 mn, .int .i64 mx]] w (GivesRg (conB lo hi) w) := by
  obtain ⟨i0, hi', hz0, hz1, hz2⟩ := info_parts info_range
  have hi0 := hi'
  clear hi'
  obtain ⟨lb, lf, rfl, _⟩ := id (hl.resolve_left (by rintro rfl; simp at h4))
  obtain ⟨hb, hf, rfl, _⟩ := id (hh.resolve_left (by rintro rfl; simp at k4))
  have HI := Lib.hid (boxC_new (a := some ⟨lb, lf, none⟩) (b := some ⟨hb, hf, none⟩) (n := 4) (m := 4) (ca := ca) (cb := cb) (out := out) (mn := mn) (mx := mx) w)
  have HL := Lib.hid h4
  have HK := Lib.hid k4
  have HS := Lib.hid hl
  have HT := Lib.hid hh
  have HPL := Lib.hid (conB_len h4 k4)
  have HPT := Lib.hid (fun k x y (h : lo[k]? = some x) (h' : hi[k]? = some y) => show (conB lo hi).take (k + 1) = (conB lo hi).take k ++ [⟨x, y⟩] from take_snoc (by unfold conB; rw [List.getElem?_zipWith, h, h']))
  have HLK := Lib.hid (fun k => show ((conB lo hi).take k).length ≤ 4 by rw [List.length_take, conB_len h4 k4]; omega)
  generalize conB lo hi = B at *
  clear h4 k4 hl hh
  have x0 := HI.out.c0
  have x1 := HI.out.c1
  go_enter Tryz.func19, Tryz.ntmps19
  go_wp2_with fail
  go_loopw [3, 4] (fun s3 s4 wr => ∃ k : Nat, k ≤ 4 ∧ s4 = .int .i64 k ∧ wr.ownsRow (w.heap.size + 1) 37 2 s3 (B.take k).length (gc (B.take k)) ∧ BoxC w.heap.size (some ⟨lb, lf, none⟩) (some ⟨hb, hf, none⟩) 4 4 ca cb out mn mx w wr) (fun _ s4 _ => 4 - (intOf s4).toNat)
  case atStart => exact ⟨0, Nat.zero_le _, rfl, World.ownsRow_nil _ _ _ _, HI.out⟩
  case round =>
    clear x0 x1 HI
    obtain ⟨k, hk, rfl, hown, hB⟩ := hrel
    have x0 := hB.c0
    have x1 := hB.c1
    by_cases hlt : k < 4
    · obtain ⟨g1, o1, x, e1, hlb, hx, c0⟩ := HS.out.at_ (show k < lo.length by rw [HL.out]; exact hlt)
      injection e1 with e1
      injection e1 with e2 e3
      subst e2 e3
      obtain ⟨g1, o1, y, e1, hhb, hy, c1⟩ := HT.out.at_ (show k < hi.length by rw [HK.out]; exact hlt)
      injection e1 with e1
      injection e1 with e2 e3
      subst e2 e3
      have HST := Lib.hid (HPT.out k x y hx hy)
      obtain ⟨P, hP⟩ : ∃ P, P = B.take k := ⟨_, rfl⟩
      rw [← hP] at hown
      have HPP := Lib.hid hP
      have hlk : P.length ≤ 4 := by rw [hP]; exact HLK.out k
      have HO := Lib.hid hown
      have HLB := Lib.hid hlb
      have HHB := Lib.hid hhb
      have HC0 := Lib.hid c0
      have HC1 := Lib.hid c1
      have HB0 := Lib.hid hB.drew
      replace HO : Hid (wr.drew.ownsRow (w.heap.size + 1) 37 2 _ P.length (gc P)) := Lib.hid HO.out
      have hlt1 : decide ((k : Int) < 4) = true := decide_eq_true (by omega)
      obtain ⟨va, vc, rfl⟩ := own_slice HO.out
      clear hown hP hB hx hy c0 c1 hlb hhb
      go_upto_region 5 with fail
      clear x0 x1
      have hi := hi0
      refine wp_region_held_drew (S := (fun W => BoxC w.heap.size (some ⟨lb, lf, none⟩) (some ⟨hb, hf, none⟩) 4 4 ca cb out mn mx w W)) (by kernel_rfl) ?_ (fun hHeld => ?_)
      · exact HB0.out
      generalize wr.drew = Wd at *
      refine wpAnyH_take (i := 0) (oi := ?oiq1) (v := ?vq1) ?hiq1 (by kernel_rfl) (by kernel_rfl) (by kernel_rfl) ?hqq1 ?hyq1 hHeld ?restq1
      case hiq1 => exact rfl
      case hqq1 => exact fun _ _ _ h => h
      case hyq1 =>
        refine Or.inl ⟨by rfl, ?_⟩
        intro w hSw
        go_simp
        (try with_reducible rfl)
      try simp only [Act.put, List.getElem_toArray, List.getElem_cons_succ, List.getElem_cons_zero, List.setIfInBounds_toArray, List.set_cons_zero, List.set_cons_succ]
      refine wpAnyH_take (i := 1) (oi := ?oiq2) (v := ?vq2) ?hiq2 (by kernel_rfl) (by kernel_rfl) (by kernel_rfl) ?hqq2 ?hyq2 hHeld ?restq2
      case hiq2 => exact rfl
      case hqq2 => exact fun _ _ _ h => h
      case hyq2 =>
        refine Or.inl ⟨by rfl, ?_⟩
        intro w hSw
        go_simp
        (try with_reducible rfl)
      try simp only [Act.put, List.getElem_toArray, List.getElem_cons_succ, List.getElem_cons_zero, List.setIfInBounds_toArray, List.set_cons_zero, List.set_cons_succ]
      refine wpAnyH_take (i := 2) (oi := ?oiq3) (v := (.slice (some ⟨lb, lf, none⟩) 4 ca)) ?hiq3 (by kernel_rfl) (by kernel_rfl) (by kernel_rfl) ?hqq3 ?hyq3 hHeld ?restq3
      case hiq3 => exact rfl
      case hqq3 => exact fun _ _ _ h => h
      case hyq3 =>
        refine Or.inl ⟨by rfl, ?_⟩
        intro w hSw
        have z := hSw.c0
        go_simp
        (try with_reducible rfl)
      try simp only [Act.put, List.getElem_toArray, List.getElem_cons_succ, List.getElem_cons_zero, List.setIfInBounds_toArray, List.set_cons_zero, List.set_cons_succ]
      refine wpAnyH_take (i := 3) (oi := ?oiq4) (v := ?vq4) ?hiq4 (by kernel_rfl) (by kernel_rfl) (by kernel_rfl) ?hqq4 ?hyq4 hHeld ?restq4
      case hiq4 => exact rfl
      case hqq4 => exact fun _ _ _ h => h
      case hyq4 =>
        refine Or.inl ⟨by rfl, ?_⟩
        intro w hSw
        go_simp
        (try with_reducible rfl)
      try simp only [Act.put, List.getElem_toArray, List.getElem_cons_succ, List.getElem_cons_zero, List.setIfInBounds_toArray, List.set_cons_zero, List.set_cons_succ]
      refine wpAnyH_take (i := 4) (oi := ?oiq5) (v := (.pointer (some ⟨lb, lf + k, none⟩))) ?hiq5 (by kernel_rfl) (by kernel_rfl) (by kernel_rfl) ?hqq5 ?hyq5 hHeld ?restq5
      case hiq5 => exact rfl
      case hqq5 => exact fun _ _ _ h => h
      case hyq5 =>
        refine Or.inl ⟨by rfl, ?_⟩
        intro w hSw
        go_simp
        (try rw [if_pos (by omega)])
        (try (intro h9; omega))
        (try rfl)
        (try with_reducible rfl)
      try simp only [Act.put, List.getElem_toArray, List.getElem_cons_succ, List.getElem_cons_zero, List.setIfInBounds_toArray, List.set_cons_zero, List.set_cons_succ]
      refine wpAnyH_take (i := 5) (oi := ?oiq6) (v := (.int .i64 x)) ?hiq6 (by kernel_rfl) (by kernel_rfl) (by kernel_rfl) ?hqq6 ?hyq6 hHeld ?restq6
      case hiq6 => exact rfl
      case hqq6 => exact fun _ _ _ h => h
      case hyq6 =>
        refine Or.inl ⟨by rfl, ?_⟩
        intro w hSw
        have z := (hSw.below.cell (p := ⟨lb, lf + k, none⟩) HLB.out).trans HC0.out
        go_simp
        (try with_reducible rfl)
      try simp only [Act.put, List.getElem_toArray, List.getElem_cons_succ, List.getElem_cons_zero, List.setIfInBounds_toArray, List.set_cons_zero, List.set_cons_succ]
      refine wpAnyH_take (i := 6) (oi := ?oiq7) (v := ?vq7) ?hiq7 (by kernel_rfl) (by kernel_rfl) (by kernel_rfl) ?hqq7 ?hyq7 hHeld ?restq7
      case hiq7 => exact rfl
      case hqq7 => exact fun _ _ _ h => h
      case hyq7 =>
        refine Or.inl ⟨by rfl, ?_⟩
        intro w hSw
        go_simp
        (try with_reducible rfl)
      try simp only [Act.put, List.getElem_toArray, List.getElem_cons_succ, List.getElem_cons_zero, List.setIfInBounds_toArray, List.set_cons_zero, List.set_cons_succ]
      refine wpAnyH_take (i := 7) (oi := ?oiq8) (v := (.slice (some ⟨hb, hf, none⟩) 4 cb)) ?hiq8 (by kernel_rfl) (by kernel_rfl) (by kernel_rfl) ?hqq8 ?hyq8 hHeld ?restq8
      case hiq8 => exact rfl
      case hqq8 => exact fun _ _ _ h => h
      case hyq8 =>
        refine Or.inl ⟨by rfl, ?_⟩
        intro w hSw
        have z := hSw.c1
        go_simp
        (try with_reducible rfl)
      try simp only [Act.put, List.getElem_toArray, List.getElem_cons_succ, List.getElem_cons_zero, List.setIfInBounds_toArray, List.set_cons_zero, List.set_cons_succ]
      refine wpAnyH_take (i := 8) (oi := ?oiq9) (v := ?vq9) ?hiq9 (by kernel_rfl) (by kernel_rfl) (by kernel_rfl) ?hqq9 ?hyq9 hHeld ?restq9
      case hiq9 => exact rfl
      case hqq9 => exact fun _ _ _ h => h
      case hyq9 =>
        refine Or.inl ⟨by rfl, ?_⟩
        intro w hSw
        go_simp
        (try with_reducible rfl)
      try simp only [Act.put, List.getElem_toArray, List.getElem_cons_succ, List.getElem_cons_zero, List.setIfInBounds_toArray, List.set_cons_zero, List.set_cons_succ]
      refine wpAnyH_take (i := 9) (oi := ?oiq10) (v := (.pointer (some ⟨hb, hf + k, none⟩))) ?hiq10 (by kernel_rfl) (by kernel_rfl) (by kernel_rfl) ?hqq10 ?hyq10 hHeld ?restq10
      case hiq10 => exact rfl
      case hqq10 => exact fun _ _ _ h => h
      case hyq10 =>
        refine Or.inl ⟨by rfl, ?_⟩
        intro w hSw
        go_simp
        (try rw [if_pos (by omega)])
        (try (intro h9; omega))
        (try rfl)
        (try with_reducible rfl)
      try simp only [Act.put, List.getElem_toArray, List.getElem_cons_succ, List.getElem_cons_zero, List.setIfInBounds_toArray, List.set_cons_zero, List.set_cons_succ]
      refine wpAnyH_take (i := 10) (oi := ?oiq11) (v := (.int .i64 y)) ?hiq11 (by kernel_rfl) (by kernel_rfl) (by kernel_rfl) ?hqq11 ?hyq11 hHeld ?restq11
      case hiq11 => exact rfl
      case hqq11 => exact fun _ _ _ h => h
      case hyq11 =>
        refine Or.inl ⟨by rfl, ?_⟩
        intro w hSw
        have z := (hSw.below.cell (p := ⟨hb, hf + k, none⟩) HHB.out).trans HC1.out
        go_simp
        (try with_reducible rfl)
      try simp only [Act.put, List.getElem_toArray, List.getElem_cons_succ, List.getElem_cons_zero, List.setIfInBounds_toArray, List.set_cons_zero, List.set_cons_succ]
      refine wpAnyH_take (i := 11) (oi := ?oiq12) (v := ?vq12) ?hiq12 (by kernel_rfl) (by kernel_rfl) (by kernel_rfl) ?hqq12 ?hyq12 hHeld ?restq12
      case hiq12 => exact rfl
      case hqq12 => exact fun _ _ _ h => h
      case hyq12 =>
        refine Or.inl ⟨by rfl, ?_⟩
        intro w hSw
        go_simp
        (try with_reducible rfl)
      try simp only [Act.put, List.getElem_toArray, List.getElem_cons_succ, List.getElem_cons_zero, List.setIfInBounds_toArray, List.set_cons_zero, List.set_cons_succ]
      refine wpAnyH_ready (rs := [12]) (by kernel_rfl) (by simp) ?_
      refine AllReadyH.cons (o := ?or15_12) ?hr15_12 ?kr15_12 AllReadyH.nil
      case hr15_12 => exact rfl
      case kr15_12 =>
        intro K hK
        go_simp
        have HB1 := Lib.hid (HB0.out.low ((Below.refl Wd.heap.size Wd).alloc (Nat.le_refl _) (.cells #[.int .i64 x, .int .i64 y] 37)))
        have HO1 := Lib.hid (own_below HO.out ((Below.refl Wd.heap.size Wd).alloc (Nat.le_refl _) (.cells #[.int .i64 x, .int .i64 y] 37)) (Nat.le_refl _))
        have HC3 := Lib.hid (show ∀ j u, (gc [⟨x, y⟩])[j]? = some u → (Wd.alloc (.cells #[.int .i64 x, .int .i64 y] 37)).cell? ((⟨Wd.heap.size, 0, none⟩ : Addr).add j) = some u from fun j u hu => by rw [show (⟨Wd.heap.size, 0, none⟩ : Addr).add j = ⟨Wd.heap.size, 0 + j, none⟩ by first | (simp [Addr.add]; done) | (simp [Addr.add]; omega), Nat.zero_add]; exact hp_cell (hp_new rfl) (by show (gc [⟨x, y⟩]).toArray[j]? = some u; rw [List.getElem?_toArray]; exact hu))
        refine hK.out _ _ HB1.out (fun hHeld => ?_)
        clear hK K
        try simp only [Act.put, List.getElem_toArray, List.getElem_cons_succ, List.getElem_cons_zero, List.setIfInBounds_toArray, List.set_cons_zero, List.set_cons_succ]
        refine wpAnyH_ready (rs := [13]) (by kernel_rfl) (by simp) ?_
        refine AllReadyH.cons (o := ?or14_13) ?hr14_13 ?kr14_13 AllReadyH.nil
        case hr14_13 => exact rfl
        case kr14_13 =>
          intro K hK
          rw [if_pos (by rfl)]
          refine wp_append_own _ (.tmp 12) (.tmp 24) 38 rfl (w.heap.size + 1) 37 i0 (.agg #[.int .i64 0, .int .i64 0]) 2 16 Tryz.underlying38 hi hz0 hz1 hz2 rfl (by decide) _ P.length (gc P) rfl HO1.out ⟨Wd.heap.size, 0, none⟩ 1 1 (gc [⟨x, y⟩]) rfl rfl HC3.out (gc_one _) (by simp [maxLen]; omega) (by omega) (by have := hp_lt HB1.out.bl; omega) ?_
          intro v5 W2 hown5 hgrow5 _
          have HB2x := Lib.hid (HB1.out.low1 (B := w.heap.size + 1) ((Below.refl (w.heap.size + 1) _).grown hgrow5 (by have := hp_lt HB1.out.bl; omega) (by rintro k hk; exact (HO1.out.lt k hk).1)) (by omega) (by omega))
          have HO2 := Lib.hid (show W2.ownsRow (w.heap.size + 1) 37 2 v5 (P ++ [(⟨x, y⟩ : Rg)]).length (gc (P ++ [(⟨x, y⟩ : Rg)])) by rw [List.length_append, gc_append]; exact hown5)
          clear hown5 hgrow5
          refine hK.out _ _ HB2x.out (fun hHeld => ?_)
          clear hK K
          try simp only [Act.put, List.getElem_toArray, List.getElem_cons_succ, List.getElem_cons_zero, List.setIfInBounds_toArray, List.set_cons_zero, List.set_cons_succ]
          refine wpAnyH_take (i := 14) (oi := ?oiq13) (v := ?vq13) ?hiq13 (by kernel_rfl) (by kernel_rfl) (by kernel_rfl) ?hqq13 ?hyq13 hHeld ?restq13
          case hiq13 => exact rfl
          case hqq13 => exact fun _ _ _ h => h
          case hyq13 =>
            refine Or.inl ⟨by rfl, ?_⟩
            intro w hSw
            go_simp
            (try with_reducible rfl)
          try simp only [Act.put, List.getElem_toArray, List.getElem_cons_succ, List.getElem_cons_zero, List.setIfInBounds_toArray, List.set_cons_zero, List.set_cons_succ]
          refine wpAnyH_done (by kernel_rfl) ?_ _
          clear hHeld
          go_wp2_with fail
          go_roundw
          case rel => exact ⟨k + 1, by omega, by go_num, by rw [HST.out, ← HPP.out]; exact HO2.out, HB2x.out⟩
          case measure => simp [intOf]; omega
    · have : k = 4 := by omega
      subst this
      rw [show ((4 : Nat) : Int) = 4 from rfl]
      have HTT := Lib.hid (show B.take 4 = B by rw [List.take_of_length_le (by rw [HPL.out]; omega)])
      rw [HTT.out, HPL.out] at hown
      have HO := Lib.hid (own_mono hown (base' := w.heap.size) (by omega))
      have HB := Lib.hid hB.below
      obtain ⟨va, vc, rfl⟩ := own_slice HO.out
      clear hown hB
      go_wp2_with fail
      go_ret
      unfold GivesRg
      rw [HPL.out]
      exact ⟨va, vc, rfl, HO.out, HB.out⟩

end Go.Proofs.YtmpgaccpdglhkaaGreat

/- contracted, proves, Proves of the document: contracts. -/
set_option linter.unusedVariables false
set_option linter.unusedSimpArgs false
namespace Go.Proofs.YtmpgaccpdglhkaaGreat
open Go.RowKit Tinker

set_option maxRecDepth 100000 in
set_option maxHeartbeats 4000000 in
theorem rcontracted_any (a a1 b1 : Option Addr) (ca c1 c2 : Nat) (ps : List L) (lo hi : List Int) (out mn mx : Int) (w : World) (hp : LinesAt w a ps) (hl : IntsAt w a1 lo) (hh : IntsAt w b1 hi) :
    Calls Tryz.prog 17 #[.slice a ps.length ca, .agg #[.slice a1 lo.length c1, .slice b1 hi.length c2, .int .i64 out, .int .i64 mn, .int .i64 mx]] w fun e w' => e = .returned (.int .i64 (vpc ps lo hi out mn mx)) ∧ Below w.heap.size w w' := by
  have HI := Lib.hid (boxC_new (a := a1) (b := b1) (n := lo.length) (m := hi.length) (ca := c1) (cb := c2) (out := out) (mn := mn) (mx := mx) w)
  have H1 := Lib.hid (fun w h => rValidate_any a ca ps w h)
  have H2 := Lib.hid (fun w hl hh => rValidateContract_any a1 b1 c1 c2 lo hi out mn mx w hl hh)
  have HP := Lib.hid hp
  have HL := Lib.hid hl
  have HH := Lib.hid hh
  unfold vpc
  by_cases hz : vp ps = 0
  · rw [hz] at H1
    rw [hz, show ∀ c, fe 0 c = c from fun _ => rfl]
    generalize vcon lo hi out mn mx = v2 at *
    clear hz hp hl hh
    have x0 := HI.out.c0
    have x1 := HI.out.c1
    have x2 := HI.out.c2
    have x3 := HI.out.c3
    have x4 := HI.out.c4
    go_enter Tryz.func17, Tryz.ntmps17
    go_wp2_with fail
    refine (H1.out _ (HP.out.below HI.out.below (Nat.le_refl _))).mono ?_
    rintro e w1 ⟨rfl, hB⟩
    have HI1 := Lib.hid (HI.out.low hB)
    clear HI hB x0 x1 x2 x3 x4
    have x0 := HI1.out.c0
    have x1 := HI1.out.c1
    have x2 := HI1.out.c2
    have x3 := HI1.out.c3
    have x4 := HI1.out.c4
    go_wp2_with fail
    refine (H2.out _ (HL.out.below HI1.out.below (Nat.le_refl _)) (HH.out.below HI1.out.below (Nat.le_refl _))).mono ?_
    rintro e w2 ⟨rfl, hB⟩
    have HI2 := Lib.hid (HI1.out.low hB)
    clear HI1 hB x0 x1 x2 x3 x4
    go_wp2_with fail
    go_ret
    exact ⟨rfl, HI2.out.below⟩
  · rw [show fe (vp ps) (vcon lo hi out mn mx) = vp ps by unfold fe; rw [if_neg hz]]
    have hz1 : (vp ps != 0) = true := by simpa using hz
    have hz2 : (vp ps == 0) = false := by simpa using hz
    generalize vp ps = c at *
    clear hz hp hl hh
    have x0 := HI.out.c0
    have x1 := HI.out.c1
    have x2 := HI.out.c2
    have x3 := HI.out.c3
    have x4 := HI.out.c4
    go_enter Tryz.func17, Tryz.ntmps17
    go_wp2_with fail
    refine (H1.out _ (HP.out.below HI.out.below (Nat.le_refl _))).mono ?_
    rintro e w1 ⟨rfl, hB⟩
    have HI1 := Lib.hid (HI.out.low hB)
    clear HI hB x0 x1 x2 x3 x4
    go_wp2_with fail
    go_ret
    exact ⟨rfl, HI1.out.below⟩

set_option maxRecDepth 100000 in
set_option maxHeartbeats 8000000 in
theorem rproves_any (a a1 b1 a2 : Option Addr) (ca c1 c2 n1 n2 cb : Nat) (ps : List L) (b : List Rg) (out mn mx : Int) (w : World) (hp : LinesAt w a ps) (hr : RangesAt w a2 b) (hv : vp ps = 0) (hb : OkB b) (ho : isReg out = true) :
    Calls Tryz.prog 18 #[.slice a ps.length ca, .agg #[.slice a1 n1 c1, .slice b1 n2 c2, .int .i64 out, .int .i64 mn, .int .i64 mx], .slice a2 4 cb] w fun e w' => e = .returned (.bool (pvB ps b out mn mx)) ∧ Below w.heap.size w w' := by
  have HI := Lib.hid (boxC_new (a := a1) (b := b1) (n := n1) (m := n2) (ca := c1) (cb := c2) (out := out) (mn := mn) (mx := mx) w)
  obtain ⟨h8, hvl⟩ := vp_ok hv
  obtain ⟨o0, o3⟩ := isReg_iff.1 ho
  have HA := Lib.hid (fun w h1 h2 => rafter_any a a2 ca cb ps b w h1 h2 hv hb)
  have k4 := (end_ok hvl hb).l4
  unfold GivesRg at HA
  rw [k4, hb.l4] at HA
  have HP := Lib.hid hp
  have HR := Lib.hid hr
  unfold pvB
  generalize endB ps b = y at *
  obtain ⟨yo, hyo⟩ := get_of_lt (show out.toNat < y.length by omega)
  have eg : gAt y out = yo := getD_of_get hyo
  have GC0 := Lib.hid (gc_get hyo)
  rw [eg]
  unfold subG
  have t1 : out < 4 := by omega
  have u1 : out.toNat < 4 := by omega
  clear hp hr hv hb ho h8 hvl k4 hyo eg
  cases hd : decide (mn ≤ yo.lo)
  · rw [show (false && decide (yo.hi ≤ mx)) = false from rfl]
    go_enter Tryz.func18, Tryz.ntmps18
    go_wp2_with fail
    refine wp_region_held_drew (S := (fun W => BoxC w.heap.size a1 b1 n1 n2 c1 c2 out mn mx w W)) (by kernel_rfl) ?_ (fun hHeld => ?_)
    · exact HI.out.drew
    generalize World.drew _ = Wd at *
    refine wpAnyH_take (i := 0) (oi := ?oiq1) (v := ?vq1) ?hiq1 (by kernel_rfl) (by kernel_rfl) (by kernel_rfl) ?hqq1 ?hyq1 hHeld ?restq1
    case hiq1 => exact rfl
    case hqq1 => exact fun _ _ _ h => h
    case hyq1 =>
      refine Or.inl ⟨by rfl, ?_⟩
      intro w hSw
      go_simp
      (try with_reducible rfl)
    try simp only [Act.put, List.getElem_toArray, List.getElem_cons_succ, List.getElem_cons_zero, List.setIfInBounds_toArray, List.set_cons_zero, List.set_cons_succ]
    refine wpAnyH_take (i := 1) (oi := ?oiq2) (v := ?vq2) ?hiq2 (by kernel_rfl) (by kernel_rfl) (by kernel_rfl) ?hqq2 ?hyq2 hHeld ?restq2
    case hiq2 => exact rfl
    case hqq2 => exact fun _ _ _ h => h
    case hyq2 =>
      refine Or.inl ⟨by rfl, ?_⟩
      intro w hSw
      go_simp
      (try with_reducible rfl)
    try simp only [Act.put, List.getElem_toArray, List.getElem_cons_succ, List.getElem_cons_zero, List.setIfInBounds_toArray, List.set_cons_zero, List.set_cons_succ]
    refine wpAnyH_take (i := 3) (oi := ?oiq3) (v := ?vq3) ?hiq3 (by kernel_rfl) (by kernel_rfl) (by kernel_rfl) ?hqq3 ?hyq3 hHeld ?restq3
    case hiq3 => exact rfl
    case hqq3 => exact fun _ _ _ h => h
    case hyq3 =>
      refine Or.inl ⟨by rfl, ?_⟩
      intro w hSw
      go_simp
      (try with_reducible rfl)
    try simp only [Act.put, List.getElem_toArray, List.getElem_cons_succ, List.getElem_cons_zero, List.setIfInBounds_toArray, List.set_cons_zero, List.set_cons_succ]
    refine wpAnyH_take (i := 4) (oi := ?oiq4) (v := (.int .i64 out)) ?hiq4 (by kernel_rfl) (by kernel_rfl) (by kernel_rfl) ?hqq4 ?hyq4 hHeld ?restq4
    case hiq4 => exact rfl
    case hqq4 => exact fun _ _ _ h => h
    case hyq4 =>
      refine Or.inl ⟨by rfl, ?_⟩
      intro w hSw
      have z2 := hSw.c2
      go_simp
      (try with_reducible rfl)
    try simp only [Act.put, List.getElem_toArray, List.getElem_cons_succ, List.getElem_cons_zero, List.setIfInBounds_toArray, List.set_cons_zero, List.set_cons_succ]
    refine wpAnyH_ready (rs := [2, 7]) (by kernel_rfl) (by simp) ?_
    refine AllReadyH.cons (o := ?or15_2) ?hr15_2 ?kr15_2 (AllReadyH.cons (o := ?or15_7) ?hr15_7 ?kr15_7 AllReadyH.nil)
    case hr15_2 => exact rfl
    case hr15_7 => exact rfl
    case kr15_2 =>
      intro K hK
      go_simp
      refine (HA.out _ (HP.out.below hHeld.below (Nat.le_refl _)) (HR.out.below hHeld.below (Nat.le_refl _))).mono ?_
      intro e w8 hG
      obtain ⟨ay, cy, rfl, hoy, hBw8⟩ := hG
      obtain ⟨gy, rfl⟩ := own_form hoy (by omega)
      have HQ0 := Lib.hid (own_cell hoy GC0.out.1)
      have HQ1 := Lib.hid (own_cell hoy GC0.out.2)
      have HGL := Lib.hid (own_lt hoy)
      clear hoy
      refine hK.out _ _ (hHeld.low hBw8) (fun hHeld => ?_)
      clear hK K
      try simp only [Act.put, List.getElem_toArray, List.getElem_cons_succ, List.getElem_cons_zero, List.setIfInBounds_toArray, List.set_cons_zero, List.set_cons_succ]
      refine wpAnyH_take (i := 5) (oi := ?oiq5) (v := ?vq5) ?hiq5 (by kernel_rfl) (by kernel_rfl) (by kernel_rfl) ?hqq5 ?hyq5 hHeld ?restq5
      case hiq5 => exact rfl
      case hqq5 => exact fun _ _ _ h => h
      case hyq5 =>
        refine Or.inl ⟨by rfl, ?_⟩
        intro w hSw
        go_simp
        (try with_reducible rfl)
      try simp only [Act.put, List.getElem_toArray, List.getElem_cons_succ, List.getElem_cons_zero, List.setIfInBounds_toArray, List.set_cons_zero, List.set_cons_succ]
      refine wpAnyH_ready (rs := [6, 7]) (by kernel_rfl) (by simp) ?_
      refine AllReadyH.cons (o := ?or10_6) ?hr10_6 ?kr10_6 (AllReadyH.cons (o := ?or10_7) ?hr10_7 ?kr10_7 AllReadyH.nil)
      case hr10_6 => exact rfl
      case hr10_7 => exact rfl
      case kr10_6 =>
        intro K hK
        have q0 := HQ0.out
        have q1 := HQ1.out
        go_simp
        clear q0 q1
        refine hK.out _ _ hHeld (fun hHeld => ?_)
        clear hK K
        try simp only [Act.put, List.getElem_toArray, List.getElem_cons_succ, List.getElem_cons_zero, List.setIfInBounds_toArray, List.set_cons_zero, List.set_cons_succ]
        refine wpAnyH_ready (rs := [7]) (by kernel_rfl) (by simp) ?_
        refine AllReadyH.cons (o := ?or7_7) ?hr7_7 ?kr7_7 AllReadyH.nil
        case hr7_7 => exact rfl
        case kr7_7 =>
          intro K hK
          go_simp
          have HN := Lib.hid (show (w8.alloc (.cells #[.int .i64 0, .int .i64 0] 37)).heap[w8.heap.size]? = _ from hp_new rfl)
          have hLA : w.heap.size < w8.heap.size := hp_lt hHeld.bl
          have HQ0 := Lib.hid (cell_alloc_keep (o := (.cells #[.int .i64 0, .int .i64 0] 37)) HQ0.out)
          have HQ1 := Lib.hid (cell_alloc_keep (o := (.cells #[.int .i64 0, .int .i64 0] 37)) HQ1.out)
          refine hK.out _ _ (hHeld.low ((Below.refl _ _).alloc (Nat.le_refl _) _)) (fun hHeld => ?_)
          clear hK K
          try simp only [Act.put, List.getElem_toArray, List.getElem_cons_succ, List.getElem_cons_zero, List.setIfInBounds_toArray, List.set_cons_zero, List.set_cons_succ]
          generalize hV1 : w8.alloc _ = wa1 at *
          generalize hLq1 : w8.heap.size = LA at *
          clear hV1 hLq1
          refine wpAnyH_ready (rs := [8]) (by kernel_rfl) (by simp) ?_
          refine AllReadyH.cons (o := ?or6_8) ?hr6_8 ?kr6_8 AllReadyH.nil
          case hr6_8 => exact rfl
          case kr6_8 =>
            intro K hK
            refine wp_store_row 37 (.tmp 7) (.tmp 14) rfl LA _ rfl rfl 37 _ HN.out (by kernel_rfl) rfl (two1 _ _) ?_
            refine hK.out _ _ (⟨hp_row hHeld.bl (by omega) _, below_setRow hHeld.below (by omega) _⟩) (fun hHeld => ?_)
            clear hK K
            try simp only [Act.put, List.getElem_toArray, List.getElem_cons_succ, List.getElem_cons_zero, List.setIfInBounds_toArray, List.set_cons_zero, List.set_cons_succ]
            have HFX := Lib.hid (hp_row_same HN.out #[.int .i64 yo.lo, .int .i64 yo.hi])
            have HIX := Lib.hid hHeld
            refine wpAnyH_done (by kernel_rfl) ?_ _
            clear hHeld
            generalize World.setRow _ _ _ = WF at *
            have y0 := hp_cell HFX.out (j := 0) rfl
            have y1 := hp_cell HFX.out (j := 1) rfl
            have x3 := HIX.out.c3
            have x4 := HIX.out.c4
            go_wp2_with fail
            go_ret
            exact ⟨rfl, HIX.out.below⟩
      case kr10_7 =>
        intro K hK
        go_simp
        have HN := Lib.hid (show (w8.alloc (.cells #[.int .i64 0, .int .i64 0] 37)).heap[w8.heap.size]? = _ from hp_new rfl)
        have hLA : w.heap.size < w8.heap.size := hp_lt hHeld.bl
        have HQ0 := Lib.hid (cell_alloc_keep (o := (.cells #[.int .i64 0, .int .i64 0] 37)) HQ0.out)
        have HQ1 := Lib.hid (cell_alloc_keep (o := (.cells #[.int .i64 0, .int .i64 0] 37)) HQ1.out)
        refine hK.out _ _ (hHeld.low ((Below.refl _ _).alloc (Nat.le_refl _) _)) (fun hHeld => ?_)
        clear hK K
        try simp only [Act.put, List.getElem_toArray, List.getElem_cons_succ, List.getElem_cons_zero, List.setIfInBounds_toArray, List.set_cons_zero, List.set_cons_succ]
        generalize hV2 : w8.alloc _ = wa2 at *
        generalize hLq2 : w8.heap.size = LA at *
        clear hV2 hLq2
        refine wpAnyH_ready (rs := [6]) (by kernel_rfl) (by simp) ?_
        refine AllReadyH.cons (o := ?or9_6) ?hr9_6 ?kr9_6 AllReadyH.nil
        case hr9_6 => exact rfl
        case kr9_6 =>
          intro K hK
          have q0 := HQ0.out
          have q1 := HQ1.out
          go_simp
          clear q0 q1
          refine hK.out _ _ hHeld (fun hHeld => ?_)
          clear hK K
          try simp only [Act.put, List.getElem_toArray, List.getElem_cons_succ, List.getElem_cons_zero, List.setIfInBounds_toArray, List.set_cons_zero, List.set_cons_succ]
          refine wpAnyH_ready (rs := [8]) (by kernel_rfl) (by simp) ?_
          refine AllReadyH.cons (o := ?or8_8) ?hr8_8 ?kr8_8 AllReadyH.nil
          case hr8_8 => exact rfl
          case kr8_8 =>
            intro K hK
            refine wp_store_row 37 (.tmp 7) (.tmp 14) rfl LA _ rfl rfl 37 _ HN.out (by kernel_rfl) rfl (two1 _ _) ?_
            refine hK.out _ _ (⟨hp_row hHeld.bl (by omega) _, below_setRow hHeld.below (by omega) _⟩) (fun hHeld => ?_)
            clear hK K
            try simp only [Act.put, List.getElem_toArray, List.getElem_cons_succ, List.getElem_cons_zero, List.setIfInBounds_toArray, List.set_cons_zero, List.set_cons_succ]
            have HFX := Lib.hid (hp_row_same HN.out #[.int .i64 yo.lo, .int .i64 yo.hi])
            have HIX := Lib.hid hHeld
            refine wpAnyH_done (by kernel_rfl) ?_ _
            clear hHeld
            generalize World.setRow _ _ _ = WF at *
            have y0 := hp_cell HFX.out (j := 0) rfl
            have y1 := hp_cell HFX.out (j := 1) rfl
            have x3 := HIX.out.c3
            have x4 := HIX.out.c4
            go_wp2_with fail
            go_ret
            exact ⟨rfl, HIX.out.below⟩
    case kr15_7 =>
      intro K hK
      go_simp
      have HN := Lib.hid (show (Wd.alloc (.cells #[.int .i64 0, .int .i64 0] 37)).heap[Wd.heap.size]? = _ from hp_new rfl)
      have hLA : w.heap.size < Wd.heap.size := hp_lt hHeld.bl
      refine hK.out _ _ (hHeld.low ((Below.refl _ _).alloc (Nat.le_refl _) _)) (fun hHeld => ?_)
      clear hK K
      try simp only [Act.put, List.getElem_toArray, List.getElem_cons_succ, List.getElem_cons_zero, List.setIfInBounds_toArray, List.set_cons_zero, List.set_cons_succ]
      generalize hV3 : Wd.alloc _ = wa3 at *
      generalize hLq3 : Wd.heap.size = LA at *
      clear hV3 hLq3
      refine wpAnyH_ready (rs := [2]) (by kernel_rfl) (by simp) ?_
      refine AllReadyH.cons (o := ?or14_2) ?hr14_2 ?kr14_2 AllReadyH.nil
      case hr14_2 => exact rfl
      case kr14_2 =>
        intro K hK
        go_simp
        refine (HA.out _ (HP.out.below hHeld.below (Nat.le_refl _)) (HR.out.below hHeld.below (Nat.le_refl _))).mono ?_
        intro e w8 hG
        obtain ⟨ay, cy, rfl, hoy, hBw8⟩ := hG
        obtain ⟨gy, rfl⟩ := own_form hoy (by omega)
        have HQ0 := Lib.hid (own_cell hoy GC0.out.1)
        have HQ1 := Lib.hid (own_cell hoy GC0.out.2)
        have HGL := Lib.hid (own_lt hoy)
        clear hoy
        replace HN := Lib.hid (hp_below HN.out hBw8 (hp_lt HN.out))
        refine hK.out _ _ (hHeld.low hBw8) (fun hHeld => ?_)
        clear hK K
        try simp only [Act.put, List.getElem_toArray, List.getElem_cons_succ, List.getElem_cons_zero, List.setIfInBounds_toArray, List.set_cons_zero, List.set_cons_succ]
        refine wpAnyH_take (i := 5) (oi := ?oiq11) (v := ?vq11) ?hiq11 (by kernel_rfl) (by kernel_rfl) (by kernel_rfl) ?hqq11 ?hyq11 hHeld ?restq11
        case hiq11 => exact rfl
        case hqq11 => exact fun _ _ _ h => h
        case hyq11 =>
          refine Or.inl ⟨by rfl, ?_⟩
          intro w hSw
          go_simp
          (try with_reducible rfl)
        try simp only [Act.put, List.getElem_toArray, List.getElem_cons_succ, List.getElem_cons_zero, List.setIfInBounds_toArray, List.set_cons_zero, List.set_cons_succ]
        refine wpAnyH_ready (rs := [6]) (by kernel_rfl) (by simp) ?_
        refine AllReadyH.cons (o := ?or13_6) ?hr13_6 ?kr13_6 AllReadyH.nil
        case hr13_6 => exact rfl
        case kr13_6 =>
          intro K hK
          have q0 := HQ0.out
          have q1 := HQ1.out
          go_simp
          clear q0 q1
          refine hK.out _ _ hHeld (fun hHeld => ?_)
          clear hK K
          try simp only [Act.put, List.getElem_toArray, List.getElem_cons_succ, List.getElem_cons_zero, List.setIfInBounds_toArray, List.set_cons_zero, List.set_cons_succ]
          refine wpAnyH_ready (rs := [8]) (by kernel_rfl) (by simp) ?_
          refine AllReadyH.cons (o := ?or12_8) ?hr12_8 ?kr12_8 AllReadyH.nil
          case hr12_8 => exact rfl
          case kr12_8 =>
            intro K hK
            refine wp_store_row 37 (.tmp 7) (.tmp 14) rfl LA _ rfl rfl 37 _ HN.out (by kernel_rfl) rfl (two1 _ _) ?_
            refine hK.out _ _ (⟨hp_row hHeld.bl (by omega) _, below_setRow hHeld.below (by omega) _⟩) (fun hHeld => ?_)
            clear hK K
            try simp only [Act.put, List.getElem_toArray, List.getElem_cons_succ, List.getElem_cons_zero, List.setIfInBounds_toArray, List.set_cons_zero, List.set_cons_succ]
            have HFX := Lib.hid (hp_row_same HN.out #[.int .i64 yo.lo, .int .i64 yo.hi])
            have HIX := Lib.hid hHeld
            refine wpAnyH_done (by kernel_rfl) ?_ _
            clear hHeld
            generalize World.setRow _ _ _ = WF at *
            have y0 := hp_cell HFX.out (j := 0) rfl
            have y1 := hp_cell HFX.out (j := 1) rfl
            have x3 := HIX.out.c3
            have x4 := HIX.out.c4
            go_wp2_with fail
            go_ret
            exact ⟨rfl, HIX.out.below⟩
  · rw [show (true && decide (yo.hi ≤ mx)) = decide (yo.hi ≤ mx) from rfl]
    go_enter Tryz.func18, Tryz.ntmps18
    go_wp2_with fail
    refine wp_region_held_drew (S := (fun W => BoxC w.heap.size a1 b1 n1 n2 c1 c2 out mn mx w W)) (by kernel_rfl) ?_ (fun hHeld => ?_)
    · exact HI.out.drew
    generalize World.drew _ = Wd at *
    refine wpAnyH_take (i := 0) (oi := ?oiq16) (v := ?vq16) ?hiq16 (by kernel_rfl) (by kernel_rfl) (by kernel_rfl) ?hqq16 ?hyq16 hHeld ?restq16
    case hiq16 => exact rfl
    case hqq16 => exact fun _ _ _ h => h
    case hyq16 =>
      refine Or.inl ⟨by rfl, ?_⟩
      intro w hSw
      go_simp
      (try with_reducible rfl)
    try simp only [Act.put, List.getElem_toArray, List.getElem_cons_succ, List.getElem_cons_zero, List.setIfInBounds_toArray, List.set_cons_zero, List.set_cons_succ]
    refine wpAnyH_take (i := 1) (oi := ?oiq17) (v := ?vq17) ?hiq17 (by kernel_rfl) (by kernel_rfl) (by kernel_rfl) ?hqq17 ?hyq17 hHeld ?restq17
    case hiq17 => exact rfl
    case hqq17 => exact fun _ _ _ h => h
    case hyq17 =>
      refine Or.inl ⟨by rfl, ?_⟩
      intro w hSw
      go_simp
      (try with_reducible rfl)
    try simp only [Act.put, List.getElem_toArray, List.getElem_cons_succ, List.getElem_cons_zero, List.setIfInBounds_toArray, List.set_cons_zero, List.set_cons_succ]
    refine wpAnyH_take (i := 3) (oi := ?oiq18) (v := ?vq18) ?hiq18 (by kernel_rfl) (by kernel_rfl) (by kernel_rfl) ?hqq18 ?hyq18 hHeld ?restq18
    case hiq18 => exact rfl
    case hqq18 => exact fun _ _ _ h => h
    case hyq18 =>
      refine Or.inl ⟨by rfl, ?_⟩
      intro w hSw
      go_simp
      (try with_reducible rfl)
    try simp only [Act.put, List.getElem_toArray, List.getElem_cons_succ, List.getElem_cons_zero, List.setIfInBounds_toArray, List.set_cons_zero, List.set_cons_succ]
    refine wpAnyH_take (i := 4) (oi := ?oiq19) (v := (.int .i64 out)) ?hiq19 (by kernel_rfl) (by kernel_rfl) (by kernel_rfl) ?hqq19 ?hyq19 hHeld ?restq19
    case hiq19 => exact rfl
    case hqq19 => exact fun _ _ _ h => h
    case hyq19 =>
      refine Or.inl ⟨by rfl, ?_⟩
      intro w hSw
      have z2 := hSw.c2
      go_simp
      (try with_reducible rfl)
    try simp only [Act.put, List.getElem_toArray, List.getElem_cons_succ, List.getElem_cons_zero, List.setIfInBounds_toArray, List.set_cons_zero, List.set_cons_succ]
    refine wpAnyH_ready (rs := [2, 7]) (by kernel_rfl) (by simp) ?_
    refine AllReadyH.cons (o := ?or30_2) ?hr30_2 ?kr30_2 (AllReadyH.cons (o := ?or30_7) ?hr30_7 ?kr30_7 AllReadyH.nil)
    case hr30_2 => exact rfl
    case hr30_7 => exact rfl
    case kr30_2 =>
      intro K hK
      go_simp
      refine (HA.out _ (HP.out.below hHeld.below (Nat.le_refl _)) (HR.out.below hHeld.below (Nat.le_refl _))).mono ?_
      intro e w8 hG
      obtain ⟨ay, cy, rfl, hoy, hBw8⟩ := hG
      obtain ⟨gy, rfl⟩ := own_form hoy (by omega)
      have HQ0 := Lib.hid (own_cell hoy GC0.out.1)
      have HQ1 := Lib.hid (own_cell hoy GC0.out.2)
      have HGL := Lib.hid (own_lt hoy)
      clear hoy
      refine hK.out _ _ (hHeld.low hBw8) (fun hHeld => ?_)
      clear hK K
      try simp only [Act.put, List.getElem_toArray, List.getElem_cons_succ, List.getElem_cons_zero, List.setIfInBounds_toArray, List.set_cons_zero, List.set_cons_succ]
      refine wpAnyH_take (i := 5) (oi := ?oiq20) (v := ?vq20) ?hiq20 (by kernel_rfl) (by kernel_rfl) (by kernel_rfl) ?hqq20 ?hyq20 hHeld ?restq20
      case hiq20 => exact rfl
      case hqq20 => exact fun _ _ _ h => h
      case hyq20 =>
        refine Or.inl ⟨by rfl, ?_⟩
        intro w hSw
        go_simp
        (try with_reducible rfl)
      try simp only [Act.put, List.getElem_toArray, List.getElem_cons_succ, List.getElem_cons_zero, List.setIfInBounds_toArray, List.set_cons_zero, List.set_cons_succ]
      refine wpAnyH_ready (rs := [6, 7]) (by kernel_rfl) (by simp) ?_
      refine AllReadyH.cons (o := ?or25_6) ?hr25_6 ?kr25_6 (AllReadyH.cons (o := ?or25_7) ?hr25_7 ?kr25_7 AllReadyH.nil)
      case hr25_6 => exact rfl
      case hr25_7 => exact rfl
      case kr25_6 =>
        intro K hK
        have q0 := HQ0.out
        have q1 := HQ1.out
        go_simp
        clear q0 q1
        refine hK.out _ _ hHeld (fun hHeld => ?_)
        clear hK K
        try simp only [Act.put, List.getElem_toArray, List.getElem_cons_succ, List.getElem_cons_zero, List.setIfInBounds_toArray, List.set_cons_zero, List.set_cons_succ]
        refine wpAnyH_ready (rs := [7]) (by kernel_rfl) (by simp) ?_
        refine AllReadyH.cons (o := ?or22_7) ?hr22_7 ?kr22_7 AllReadyH.nil
        case hr22_7 => exact rfl
        case kr22_7 =>
          intro K hK
          go_simp
          have HN := Lib.hid (show (w8.alloc (.cells #[.int .i64 0, .int .i64 0] 37)).heap[w8.heap.size]? = _ from hp_new rfl)
          have hLA : w.heap.size < w8.heap.size := hp_lt hHeld.bl
          have HQ0 := Lib.hid (cell_alloc_keep (o := (.cells #[.int .i64 0, .int .i64 0] 37)) HQ0.out)
          have HQ1 := Lib.hid (cell_alloc_keep (o := (.cells #[.int .i64 0, .int .i64 0] 37)) HQ1.out)
          refine hK.out _ _ (hHeld.low ((Below.refl _ _).alloc (Nat.le_refl _) _)) (fun hHeld => ?_)
          clear hK K
          try simp only [Act.put, List.getElem_toArray, List.getElem_cons_succ, List.getElem_cons_zero, List.setIfInBounds_toArray, List.set_cons_zero, List.set_cons_succ]
          generalize hV4 : w8.alloc _ = wa4 at *
          generalize hLq4 : w8.heap.size = LA at *
          clear hV4 hLq4
          refine wpAnyH_ready (rs := [8]) (by kernel_rfl) (by simp) ?_
          refine AllReadyH.cons (o := ?or21_8) ?hr21_8 ?kr21_8 AllReadyH.nil
          case hr21_8 => exact rfl
          case kr21_8 =>
            intro K hK
            refine wp_store_row 37 (.tmp 7) (.tmp 14) rfl LA _ rfl rfl 37 _ HN.out (by kernel_rfl) rfl (two1 _ _) ?_
            refine hK.out _ _ (⟨hp_row hHeld.bl (by omega) _, below_setRow hHeld.below (by omega) _⟩) (fun hHeld => ?_)
            clear hK K
            try simp only [Act.put, List.getElem_toArray, List.getElem_cons_succ, List.getElem_cons_zero, List.setIfInBounds_toArray, List.set_cons_zero, List.set_cons_succ]
            have HFX := Lib.hid (hp_row_same HN.out #[.int .i64 yo.lo, .int .i64 yo.hi])
            have HIX := Lib.hid hHeld
            refine wpAnyH_done (by kernel_rfl) ?_ _
            clear hHeld
            generalize World.setRow _ _ _ = WF at *
            have y0 := hp_cell HFX.out (j := 0) rfl
            have y1 := hp_cell HFX.out (j := 1) rfl
            have x3 := HIX.out.c3
            have x4 := HIX.out.c4
            go_wp2_with fail
            go_ret
            exact ⟨rfl, HIX.out.below⟩
      case kr25_7 =>
        intro K hK
        go_simp
        have HN := Lib.hid (show (w8.alloc (.cells #[.int .i64 0, .int .i64 0] 37)).heap[w8.heap.size]? = _ from hp_new rfl)
        have hLA : w.heap.size < w8.heap.size := hp_lt hHeld.bl
        have HQ0 := Lib.hid (cell_alloc_keep (o := (.cells #[.int .i64 0, .int .i64 0] 37)) HQ0.out)
        have HQ1 := Lib.hid (cell_alloc_keep (o := (.cells #[.int .i64 0, .int .i64 0] 37)) HQ1.out)
        refine hK.out _ _ (hHeld.low ((Below.refl _ _).alloc (Nat.le_refl _) _)) (fun hHeld => ?_)
        clear hK K
        try simp only [Act.put, List.getElem_toArray, List.getElem_cons_succ, List.getElem_cons_zero, List.setIfInBounds_toArray, List.set_cons_zero, List.set_cons_succ]
        generalize hV5 : w8.alloc _ = wa5 at *
        generalize hLq5 : w8.heap.size = LA at *
        clear hV5 hLq5
        refine wpAnyH_ready (rs := [6]) (by kernel_rfl) (by simp) ?_
        refine AllReadyH.cons (o := ?or24_6) ?hr24_6 ?kr24_6 AllReadyH.nil
        case hr24_6 => exact rfl
        case kr24_6 =>
          intro K hK
          have q0 := HQ0.out
          have q1 := HQ1.out
          go_simp
          clear q0 q1
          refine hK.out _ _ hHeld (fun hHeld => ?_)
          clear hK K
          try simp only [Act.put, List.getElem_toArray, List.getElem_cons_succ, List.getElem_cons_zero, List.setIfInBounds_toArray, List.set_cons_zero, List.set_cons_succ]
          refine wpAnyH_ready (rs := [8]) (by kernel_rfl) (by simp) ?_
          refine AllReadyH.cons (o := ?or23_8) ?hr23_8 ?kr23_8 AllReadyH.nil
          case hr23_8 => exact rfl
          case kr23_8 =>
            intro K hK
            refine wp_store_row 37 (.tmp 7) (.tmp 14) rfl LA _ rfl rfl 37 _ HN.out (by kernel_rfl) rfl (two1 _ _) ?_
            refine hK.out _ _ (⟨hp_row hHeld.bl (by omega) _, below_setRow hHeld.below (by omega) _⟩) (fun hHeld => ?_)
            clear hK K
            try simp only [Act.put, List.getElem_toArray, List.getElem_cons_succ, List.getElem_cons_zero, List.setIfInBounds_toArray, List.set_cons_zero, List.set_cons_succ]
            have HFX := Lib.hid (hp_row_same HN.out #[.int .i64 yo.lo, .int .i64 yo.hi])
            have HIX := Lib.hid hHeld
            refine wpAnyH_done (by kernel_rfl) ?_ _
            clear hHeld
            generalize World.setRow _ _ _ = WF at *
            have y0 := hp_cell HFX.out (j := 0) rfl
            have y1 := hp_cell HFX.out (j := 1) rfl
            have x3 := HIX.out.c3
            have x4 := HIX.out.c4
            go_wp2_with fail
            go_ret
            exact ⟨rfl, HIX.out.below⟩
    case kr30_7 =>
      intro K hK
      go_simp
      have HN := Lib.hid (show (Wd.alloc (.cells #[.int .i64 0, .int .i64 0] 37)).heap[Wd.heap.size]? = _ from hp_new rfl)
      have hLA : w.heap.size < Wd.heap.size := hp_lt hHeld.bl
      refine hK.out _ _ (hHeld.low ((Below.refl _ _).alloc (Nat.le_refl _) _)) (fun hHeld => ?_)
      clear hK K
      try simp only [Act.put, List.getElem_toArray, List.getElem_cons_succ, List.getElem_cons_zero, List.setIfInBounds_toArray, List.set_cons_zero, List.set_cons_succ]
      generalize hV6 : Wd.alloc _ = wa6 at *
      generalize hLq6 : Wd.heap.size = LA at *
      clear hV6 hLq6
      refine wpAnyH_ready (rs := [2]) (by kernel_rfl) (by simp) ?_
      refine AllReadyH.cons (o := ?or29_2) ?hr29_2 ?kr29_2 AllReadyH.nil
      case hr29_2 => exact rfl
      case kr29_2 =>
        intro K hK
        go_simp
        refine (HA.out _ (HP.out.below hHeld.below (Nat.le_refl _)) (HR.out.below hHeld.below (Nat.le_refl _))).mono ?_
        intro e w8 hG
        obtain ⟨ay, cy, rfl, hoy, hBw8⟩ := hG
        obtain ⟨gy, rfl⟩ := own_form hoy (by omega)
        have HQ0 := Lib.hid (own_cell hoy GC0.out.1)
        have HQ1 := Lib.hid (own_cell hoy GC0.out.2)
        have HGL := Lib.hid (own_lt hoy)
        clear hoy
        replace HN := Lib.hid (hp_below HN.out hBw8 (hp_lt HN.out))
        refine hK.out _ _ (hHeld.low hBw8) (fun hHeld => ?_)
        clear hK K
        try simp only [Act.put, List.getElem_toArray, List.getElem_cons_succ, List.getElem_cons_zero, List.setIfInBounds_toArray, List.set_cons_zero, List.set_cons_succ]
        refine wpAnyH_take (i := 5) (oi := ?oiq26) (v := ?vq26) ?hiq26 (by kernel_rfl) (by kernel_rfl) (by kernel_rfl) ?hqq26 ?hyq26 hHeld ?restq26
        case hiq26 => exact rfl
        case hqq26 => exact fun _ _ _ h => h
        case hyq26 =>
          refine Or.inl ⟨by rfl, ?_⟩
          intro w hSw
          go_simp
          (try with_reducible rfl)
        try simp only [Act.put, List.getElem_toArray, List.getElem_cons_succ, List.getElem_cons_zero, List.setIfInBounds_toArray, List.set_cons_zero, List.set_cons_succ]
        refine wpAnyH_ready (rs := [6]) (by kernel_rfl) (by simp) ?_
        refine AllReadyH.cons (o := ?or28_6) ?hr28_6 ?kr28_6 AllReadyH.nil
        case hr28_6 => exact rfl
        case kr28_6 =>
          intro K hK
          have q0 := HQ0.out
          have q1 := HQ1.out
          go_simp
          clear q0 q1
          refine hK.out _ _ hHeld (fun hHeld => ?_)
          clear hK K
          try simp only [Act.put, List.getElem_toArray, List.getElem_cons_succ, List.getElem_cons_zero, List.setIfInBounds_toArray, List.set_cons_zero, List.set_cons_succ]
          refine wpAnyH_ready (rs := [8]) (by kernel_rfl) (by simp) ?_
          refine AllReadyH.cons (o := ?or27_8) ?hr27_8 ?kr27_8 AllReadyH.nil
          case hr27_8 => exact rfl
          case kr27_8 =>
            intro K hK
            refine wp_store_row 37 (.tmp 7) (.tmp 14) rfl LA _ rfl rfl 37 _ HN.out (by kernel_rfl) rfl (two1 _ _) ?_
            refine hK.out _ _ (⟨hp_row hHeld.bl (by omega) _, below_setRow hHeld.below (by omega) _⟩) (fun hHeld => ?_)
            clear hK K
            try simp only [Act.put, List.getElem_toArray, List.getElem_cons_succ, List.getElem_cons_zero, List.setIfInBounds_toArray, List.set_cons_zero, List.set_cons_succ]
            have HFX := Lib.hid (hp_row_same HN.out #[.int .i64 yo.lo, .int .i64 yo.hi])
            have HIX := Lib.hid hHeld
            refine wpAnyH_done (by kernel_rfl) ?_ _
            clear hHeld
            generalize World.setRow _ _ _ = WF at *
            have y0 := hp_cell HFX.out (j := 0) rfl
            have y1 := hp_cell HFX.out (j := 1) rfl
            have x3 := HIX.out.c3
            have x4 := HIX.out.c4
            go_wp2_with fail
            go_ret
            exact ⟨rfl, HIX.out.below⟩

end Go.Proofs.YtmpgaccpdglhkaaGreat

/- Verdict of the document: contract. -/
set_option linter.unusedVariables false
set_option linter.unusedSimpArgs false
namespace Go.Proofs.YtmpgaccpdglhkaaGreat
open Go.RowKit Tinker

set_option maxRecDepth 100000 in
set_option maxHeartbeats 4000000 in
theorem rVerdict_any (a a1 b1 : Option Addr) (ca c1 c2 : Nat) (ps : List L) (lo hi : List Int) (out mn mx : Int) (w : World) (hp : LinesAt w a ps) (hl : IntsAt w a1 lo) (hh : IntsAt w b1 hi) :
    Calls Tryz.prog 8 #[.slice a ps.length ca, .agg #[.slice a1 lo.length c1, .slice b1 hi.length c2, .int .i64 out, .int .i64 mn, .int .i64 mx]] w fun e w' => e = .returned (.tuple #[.int .i64 (vdA ps lo hi out mn mx), .int .i64 (vpc ps lo hi out mn mx)]) ∧ Below w.heap.size w w' := by
  have HI := Lib.hid (boxC_new (a := a1) (b := b1) (n := lo.length) (m := hi.length) (ca := c1) (cb := c2) (out := out) (mn := mn) (mx := mx) w)
  have HV := Lib.hid (fun w hp hl hh => rcontracted_any a a1 b1 ca c1 c2 ps lo hi out mn mx w hp hl hh)
  have HP := Lib.hid hp
  have HL := Lib.hid hl
  have HH := Lib.hid hh
  by_cases hz : vpc ps lo hi out mn mx = 0
  · obtain ⟨z1, z2⟩ := vpc_ok hz
    have hcon := (vcon_ok z2).1
    obtain ⟨q1, q2, q3, q4, q5, q6, q7⟩ := isCon_ok hcon
    have h4 := (vs_ok q1).1
    have k4 := (vs_ok q2).1
    have hok := okB_conV z2
    have HOF := Lib.hid (fun w h1 h2 => rof_any a1 b1 c1 c2 lo hi out mn mx w h1 h2 h4 k4)
    have HPV := Lib.hid (fun a2 cb w hp hr => rproves_any a a1 b1 a2 ca c1 c2 4 4 cb ps (conB lo hi) out mn mx w hp hr z1 hok q4)
    unfold GivesRg at HOF
    rw [hok.l4] at HOF
    rw [hz, h4, k4] at HV
    rw [h4, k4] at HI
    rw [h4, k4]
    have HKP := Lib.hid (fun w hp hl hh => rKeeps_any a a1 b1 ca c1 c2 ps lo hi out mn mx w hp hl hh)
    rw [hz, h4, k4] at HKP
    cases hpv : pvB ps (conB lo hi) out mn mx
    · cases hkp : kpB ps lo hi out mn mx
      · have hvd : vdA ps lo hi out mn mx = -1 := by unfold vdA; rw [if_pos hz, hpv, hkp]; rfl
        rw [hvd, hz]
        rw [hpv] at HPV
        generalize conB lo hi = B at *
        rw [hkp] at HKP
        clear hpv hvd hkp
        clear hz z1 z2 hcon q1 q2 q3 q4 q5 q6 q7 h4 k4 hok hp hl hh
        have x0 := HI.out.c0
        have x1 := HI.out.c1
        have x2 := HI.out.c2
        have x3 := HI.out.c3
        have x4 := HI.out.c4
        go_enter Tryz.func8, Tryz.ntmps8
        go_wp2_with fail
        refine (HV.out _ (HP.out.below HI.out.below (Nat.le_refl _)) (HL.out.below HI.out.below (Nat.le_refl _)) (HH.out.below HI.out.below (Nat.le_refl _))).mono ?_
        rintro e w1 ⟨rfl, hB⟩
        have HI1 := Lib.hid (HI.out.low hB)
        clear HI hB x0 x1 x2 x3 x4
        have x0 := HI1.out.c0
        have x1 := HI1.out.c1
        have x2 := HI1.out.c2
        have x3 := HI1.out.c3
        have x4 := HI1.out.c4
        go_wp2_with fail
        clear x0 x1 x2 x3 x4
        refine wp_region_held_drew (S := (fun W => BoxC w.heap.size a1 b1 4 4 c1 c2 out mn mx w W)) (by kernel_rfl) ?_ (fun hHeld => ?_)
        · exact HI1.out.drew
        generalize World.drew w1 = Wd at *
        refine wpAnyH_take (i := 0) (oi := ?oiq38) (v := ?vq38) ?hiq38 (by kernel_rfl) (by kernel_rfl) (by kernel_rfl) ?hqq38 ?hyq38 hHeld ?restq38
        case hiq38 => exact rfl
        case hqq38 => exact fun _ _ _ h => h
        case hyq38 =>
          refine Or.inl ⟨by rfl, ?_⟩
          intro w hSw
          go_simp
          (try with_reducible rfl)
        try simp only [Act.put, List.getElem_toArray, List.getElem_cons_succ, List.getElem_cons_zero, List.setIfInBounds_toArray, List.set_cons_zero, List.set_cons_succ]
        refine wpAnyH_take (i := 1) (oi := ?oiq39) (v := ?vq39) ?hiq39 (by kernel_rfl) (by kernel_rfl) (by kernel_rfl) ?hqq39 ?hyq39 hHeld ?restq39
        case hiq39 => exact rfl
        case hqq39 => exact fun _ _ _ h => h
        case hyq39 =>
          refine Or.inl ⟨by rfl, ?_⟩
          intro w hSw
          have z0 := hSw.c0
          have z1 := hSw.c1
          have z2 := hSw.c2
          have z3 := hSw.c3
          have z4 := hSw.c4
          go_simp
          (try with_reducible rfl)
        try simp only [Act.put, List.getElem_toArray, List.getElem_cons_succ, List.getElem_cons_zero, List.setIfInBounds_toArray, List.set_cons_zero, List.set_cons_succ]
        refine wpAnyH_take (i := 2) (oi := ?oiq40) (v := ?vq40) ?hiq40 (by kernel_rfl) (by kernel_rfl) (by kernel_rfl) ?hqq40 ?hyq40 hHeld ?restq40
        case hiq40 => exact rfl
        case hqq40 => exact fun _ _ _ h => h
        case hyq40 =>
          refine Or.inl ⟨by rfl, ?_⟩
          intro w hSw
          have z0 := hSw.c0
          have z1 := hSw.c1
          have z2 := hSw.c2
          have z3 := hSw.c3
          have z4 := hSw.c4
          go_simp
          (try with_reducible rfl)
        try simp only [Act.put, List.getElem_toArray, List.getElem_cons_succ, List.getElem_cons_zero, List.setIfInBounds_toArray, List.set_cons_zero, List.set_cons_succ]
        refine wpAnyH_ready (rs := [3]) (by kernel_rfl) (by simp) ?_
        refine AllReadyH.cons (o := ?or42_3) ?hr42_3 ?kr42_3 AllReadyH.nil
        case hr42_3 => exact rfl
        case kr42_3 =>
          intro K hK
          go_simp
          refine (HOF.out _ (HL.out.below hHeld.below (Nat.le_refl _)) (HH.out.below hHeld.below (Nat.le_refl _))).mono ?_
          intro e w8 hG
          obtain ⟨ao, co, rfl, hoo, hB8⟩ := hG
          have HR8 := Lib.hid (ranges_of_own hoo).1
          clear hoo
          refine hK.out _ _ (hHeld.low hB8) (fun hHeld => ?_)
          clear hK K
          try simp only [Act.put, List.getElem_toArray, List.getElem_cons_succ, List.getElem_cons_zero, List.setIfInBounds_toArray, List.set_cons_zero, List.set_cons_succ]
          refine wpAnyH_ready (rs := [4]) (by kernel_rfl) (by simp) ?_
          refine AllReadyH.cons (o := ?or41_4) ?hr41_4 ?kr41_4 AllReadyH.nil
          case hr41_4 => exact rfl
          case kr41_4 =>
            intro K hK
            go_simp
            refine (HPV.out _ _ _ (HP.out.below hHeld.below (Nat.le_refl _)) HR8.out).mono ?_
            rintro e w9 ⟨rfl, hB9⟩
            refine hK.out _ _ (hHeld.low hB9) (fun hHeld => ?_)
            clear hK K
            try simp only [Act.put, List.getElem_toArray, List.getElem_cons_succ, List.getElem_cons_zero, List.setIfInBounds_toArray, List.set_cons_zero, List.set_cons_succ]
            have HI9 := Lib.hid hHeld
            refine wpAnyH_done (by kernel_rfl) ?_ _
            clear hHeld
            have y0 := HI9.out.c0
            have y1 := HI9.out.c1
            have y2 := HI9.out.c2
            have y3 := HI9.out.c3
            have y4 := HI9.out.c4
            go_wp2_with fail
            refine (HKP.out _ (HP.out.below HI9.out.below (Nat.le_refl _)) (HL.out.below HI9.out.below (Nat.le_refl _)) (HH.out.below HI9.out.below (Nat.le_refl _))).mono ?_
            rintro e w7 ⟨rfl, hB7⟩
            have HB7 := Lib.hid (HI9.out.low hB7).below
            clear hB7 y0 y1 y2 y3 y4
            go_wp2_with fail
            go_ret2
            exact ⟨rfl, HB7.out⟩
      · have hvd : vdA ps lo hi out mn mx = 0 := by unfold vdA; rw [if_pos hz, hpv, hkp]; rfl
        rw [hvd, hz]
        rw [hpv] at HPV
        generalize conB lo hi = B at *
        rw [hkp] at HKP
        clear hpv hvd hkp
        clear hz z1 z2 hcon q1 q2 q3 q4 q5 q6 q7 h4 k4 hok hp hl hh
        have x0 := HI.out.c0
        have x1 := HI.out.c1
        have x2 := HI.out.c2
        have x3 := HI.out.c3
        have x4 := HI.out.c4
        go_enter Tryz.func8, Tryz.ntmps8
        go_wp2_with fail
        refine (HV.out _ (HP.out.below HI.out.below (Nat.le_refl _)) (HL.out.below HI.out.below (Nat.le_refl _)) (HH.out.below HI.out.below (Nat.le_refl _))).mono ?_
        rintro e w1 ⟨rfl, hB⟩
        have HI1 := Lib.hid (HI.out.low hB)
        clear HI hB x0 x1 x2 x3 x4
        have x0 := HI1.out.c0
        have x1 := HI1.out.c1
        have x2 := HI1.out.c2
        have x3 := HI1.out.c3
        have x4 := HI1.out.c4
        go_wp2_with fail
        clear x0 x1 x2 x3 x4
        refine wp_region_held_drew (S := (fun W => BoxC w.heap.size a1 b1 4 4 c1 c2 out mn mx w W)) (by kernel_rfl) ?_ (fun hHeld => ?_)
        · exact HI1.out.drew
        generalize World.drew w1 = Wd at *
        refine wpAnyH_take (i := 0) (oi := ?oiq43) (v := ?vq43) ?hiq43 (by kernel_rfl) (by kernel_rfl) (by kernel_rfl) ?hqq43 ?hyq43 hHeld ?restq43
        case hiq43 => exact rfl
        case hqq43 => exact fun _ _ _ h => h
        case hyq43 =>
          refine Or.inl ⟨by rfl, ?_⟩
          intro w hSw
          go_simp
          (try with_reducible rfl)
        try simp only [Act.put, List.getElem_toArray, List.getElem_cons_succ, List.getElem_cons_zero, List.setIfInBounds_toArray, List.set_cons_zero, List.set_cons_succ]
        refine wpAnyH_take (i := 1) (oi := ?oiq44) (v := ?vq44) ?hiq44 (by kernel_rfl) (by kernel_rfl) (by kernel_rfl) ?hqq44 ?hyq44 hHeld ?restq44
        case hiq44 => exact rfl
        case hqq44 => exact fun _ _ _ h => h
        case hyq44 =>
          refine Or.inl ⟨by rfl, ?_⟩
          intro w hSw
          have z0 := hSw.c0
          have z1 := hSw.c1
          have z2 := hSw.c2
          have z3 := hSw.c3
          have z4 := hSw.c4
          go_simp
          (try with_reducible rfl)
        try simp only [Act.put, List.getElem_toArray, List.getElem_cons_succ, List.getElem_cons_zero, List.setIfInBounds_toArray, List.set_cons_zero, List.set_cons_succ]
        refine wpAnyH_take (i := 2) (oi := ?oiq45) (v := ?vq45) ?hiq45 (by kernel_rfl) (by kernel_rfl) (by kernel_rfl) ?hqq45 ?hyq45 hHeld ?restq45
        case hiq45 => exact rfl
        case hqq45 => exact fun _ _ _ h => h
        case hyq45 =>
          refine Or.inl ⟨by rfl, ?_⟩
          intro w hSw
          have z0 := hSw.c0
          have z1 := hSw.c1
          have z2 := hSw.c2
          have z3 := hSw.c3
          have z4 := hSw.c4
          go_simp
          (try with_reducible rfl)
        try simp only [Act.put, List.getElem_toArray, List.getElem_cons_succ, List.getElem_cons_zero, List.setIfInBounds_toArray, List.set_cons_zero, List.set_cons_succ]
        refine wpAnyH_ready (rs := [3]) (by kernel_rfl) (by simp) ?_
        refine AllReadyH.cons (o := ?or47_3) ?hr47_3 ?kr47_3 AllReadyH.nil
        case hr47_3 => exact rfl
        case kr47_3 =>
          intro K hK
          go_simp
          refine (HOF.out _ (HL.out.below hHeld.below (Nat.le_refl _)) (HH.out.below hHeld.below (Nat.le_refl _))).mono ?_
          intro e w8 hG
          obtain ⟨ao, co, rfl, hoo, hB8⟩ := hG
          have HR8 := Lib.hid (ranges_of_own hoo).1
          clear hoo
          refine hK.out _ _ (hHeld.low hB8) (fun hHeld => ?_)
          clear hK K
          try simp only [Act.put, List.getElem_toArray, List.getElem_cons_succ, List.getElem_cons_zero, List.setIfInBounds_toArray, List.set_cons_zero, List.set_cons_succ]
          refine wpAnyH_ready (rs := [4]) (by kernel_rfl) (by simp) ?_
          refine AllReadyH.cons (o := ?or46_4) ?hr46_4 ?kr46_4 AllReadyH.nil
          case hr46_4 => exact rfl
          case kr46_4 =>
            intro K hK
            go_simp
            refine (HPV.out _ _ _ (HP.out.below hHeld.below (Nat.le_refl _)) HR8.out).mono ?_
            rintro e w9 ⟨rfl, hB9⟩
            refine hK.out _ _ (hHeld.low hB9) (fun hHeld => ?_)
            clear hK K
            try simp only [Act.put, List.getElem_toArray, List.getElem_cons_succ, List.getElem_cons_zero, List.setIfInBounds_toArray, List.set_cons_zero, List.set_cons_succ]
            have HI9 := Lib.hid hHeld
            refine wpAnyH_done (by kernel_rfl) ?_ _
            clear hHeld
            have y0 := HI9.out.c0
            have y1 := HI9.out.c1
            have y2 := HI9.out.c2
            have y3 := HI9.out.c3
            have y4 := HI9.out.c4
            go_wp2_with fail
            refine (HKP.out _ (HP.out.below HI9.out.below (Nat.le_refl _)) (HL.out.below HI9.out.below (Nat.le_refl _)) (HH.out.below HI9.out.below (Nat.le_refl _))).mono ?_
            rintro e w7 ⟨rfl, hB7⟩
            have HB7 := Lib.hid (HI9.out.low hB7).below
            clear hB7 y0 y1 y2 y3 y4
            go_wp2_with fail
            go_ret2
            exact ⟨rfl, HB7.out⟩
    · have hvd : vdA ps lo hi out mn mx = 1 := by unfold vdA; rw [if_pos hz, hpv]; rfl
      rw [hvd, hz]
      rw [hpv] at HPV
      generalize conB lo hi = B at *
      clear hpv hvd
      clear hz z1 z2 hcon q1 q2 q3 q4 q5 q6 q7 h4 k4 hok hp hl hh
      have x0 := HI.out.c0
      have x1 := HI.out.c1
      have x2 := HI.out.c2
      have x3 := HI.out.c3
      have x4 := HI.out.c4
      go_enter Tryz.func8, Tryz.ntmps8
      go_wp2_with fail
      refine (HV.out _ (HP.out.below HI.out.below (Nat.le_refl _)) (HL.out.below HI.out.below (Nat.le_refl _)) (HH.out.below HI.out.below (Nat.le_refl _))).mono ?_
      rintro e w1 ⟨rfl, hB⟩
      have HI1 := Lib.hid (HI.out.low hB)
      clear HI hB x0 x1 x2 x3 x4
      have x0 := HI1.out.c0
      have x1 := HI1.out.c1
      have x2 := HI1.out.c2
      have x3 := HI1.out.c3
      have x4 := HI1.out.c4
      go_wp2_with fail
      clear x0 x1 x2 x3 x4
      refine wp_region_held_drew (S := (fun W => BoxC w.heap.size a1 b1 4 4 c1 c2 out mn mx w W)) (by kernel_rfl) ?_ (fun hHeld => ?_)
      · exact HI1.out.drew
      generalize World.drew w1 = Wd at *
      refine wpAnyH_take (i := 0) (oi := ?oiq48) (v := ?vq48) ?hiq48 (by kernel_rfl) (by kernel_rfl) (by kernel_rfl) ?hqq48 ?hyq48 hHeld ?restq48
      case hiq48 => exact rfl
      case hqq48 => exact fun _ _ _ h => h
      case hyq48 =>
        refine Or.inl ⟨by rfl, ?_⟩
        intro w hSw
        go_simp
        (try with_reducible rfl)
      try simp only [Act.put, List.getElem_toArray, List.getElem_cons_succ, List.getElem_cons_zero, List.setIfInBounds_toArray, List.set_cons_zero, List.set_cons_succ]
      refine wpAnyH_take (i := 1) (oi := ?oiq49) (v := ?vq49) ?hiq49 (by kernel_rfl) (by kernel_rfl) (by kernel_rfl) ?hqq49 ?hyq49 hHeld ?restq49
      case hiq49 => exact rfl
      case hqq49 => exact fun _ _ _ h => h
      case hyq49 =>
        refine Or.inl ⟨by rfl, ?_⟩
        intro w hSw
        have z0 := hSw.c0
        have z1 := hSw.c1
        have z2 := hSw.c2
        have z3 := hSw.c3
        have z4 := hSw.c4
        go_simp
        (try with_reducible rfl)
      try simp only [Act.put, List.getElem_toArray, List.getElem_cons_succ, List.getElem_cons_zero, List.setIfInBounds_toArray, List.set_cons_zero, List.set_cons_succ]
      refine wpAnyH_take (i := 2) (oi := ?oiq50) (v := ?vq50) ?hiq50 (by kernel_rfl) (by kernel_rfl) (by kernel_rfl) ?hqq50 ?hyq50 hHeld ?restq50
      case hiq50 => exact rfl
      case hqq50 => exact fun _ _ _ h => h
      case hyq50 =>
        refine Or.inl ⟨by rfl, ?_⟩
        intro w hSw
        have z0 := hSw.c0
        have z1 := hSw.c1
        have z2 := hSw.c2
        have z3 := hSw.c3
        have z4 := hSw.c4
        go_simp
        (try with_reducible rfl)
      try simp only [Act.put, List.getElem_toArray, List.getElem_cons_succ, List.getElem_cons_zero, List.setIfInBounds_toArray, List.set_cons_zero, List.set_cons_succ]
      refine wpAnyH_ready (rs := [3]) (by kernel_rfl) (by simp) ?_
      refine AllReadyH.cons (o := ?or52_3) ?hr52_3 ?kr52_3 AllReadyH.nil
      case hr52_3 => exact rfl
      case kr52_3 =>
        intro K hK
        go_simp
        refine (HOF.out _ (HL.out.below hHeld.below (Nat.le_refl _)) (HH.out.below hHeld.below (Nat.le_refl _))).mono ?_
        intro e w8 hG
        obtain ⟨ao, co, rfl, hoo, hB8⟩ := hG
        have HR8 := Lib.hid (ranges_of_own hoo).1
        clear hoo
        refine hK.out _ _ (hHeld.low hB8) (fun hHeld => ?_)
        clear hK K
        try simp only [Act.put, List.getElem_toArray, List.getElem_cons_succ, List.getElem_cons_zero, List.setIfInBounds_toArray, List.set_cons_zero, List.set_cons_succ]
        refine wpAnyH_ready (rs := [4]) (by kernel_rfl) (by simp) ?_
        refine AllReadyH.cons (o := ?or51_4) ?hr51_4 ?kr51_4 AllReadyH.nil
        case hr51_4 => exact rfl
        case kr51_4 =>
          intro K hK
          go_simp
          refine (HPV.out _ _ _ (HP.out.below hHeld.below (Nat.le_refl _)) HR8.out).mono ?_
          rintro e w9 ⟨rfl, hB9⟩
          refine hK.out _ _ (hHeld.low hB9) (fun hHeld => ?_)
          clear hK K
          try simp only [Act.put, List.getElem_toArray, List.getElem_cons_succ, List.getElem_cons_zero, List.setIfInBounds_toArray, List.set_cons_zero, List.set_cons_succ]
          have HBF := Lib.hid hHeld.below
          refine wpAnyH_done (by kernel_rfl) ?_ _
          clear hHeld
          go_wp2_with fail
          go_ret2
          exact ⟨rfl, HBF.out⟩
  · have hz1 : (vpc ps lo hi out mn mx != 0) = true := by simpa using hz
    have hz2 : (vpc ps lo hi out mn mx == 0) = false := by simpa using hz
    rw [show vdA ps lo hi out mn mx = 0 by unfold vdA; rw [if_neg hz]]
    generalize vpc ps lo hi out mn mx = c at *
    clear hz hp hl hh
    have x0 := HI.out.c0
    have x1 := HI.out.c1
    have x2 := HI.out.c2
    have x3 := HI.out.c3
    have x4 := HI.out.c4
    go_enter Tryz.func8, Tryz.ntmps8
    go_wp2_with fail
    refine (HV.out _ (HP.out.below HI.out.below (Nat.le_refl _)) (HL.out.below HI.out.below (Nat.le_refl _)) (HH.out.below HI.out.below (Nat.le_refl _))).mono ?_
    rintro e w1 ⟨rfl, hB⟩
    have HI1 := Lib.hid (HI.out.low hB)
    clear HI hB x0 x1 x2 x3 x4
    go_wp2_with fail
    go_ret2
    exact ⟨rfl, HI1.out.below⟩

end Go.Proofs.YtmpgaccpdglhkaaGreat

/- SpanVerdicts: the walk. -/
set_option linter.unusedVariables false
set_option linter.unusedSimpArgs false
namespace Go.Proofs.YtmpgaccpdglhkaaGreat
open Go.RowKit Tinker

set_option maxRecDepth 100000 in
set_option maxHeartbeats 8000000 in
theorem spanVerdicts_walk (g : Option Addr) (cg : Nat) (ps : List L) (a : Option Addr) (ca : Nat) (lo : List Int) (b : Option Addr) (cb : Nat) (hi : List Int) (out mn mx : Int) (w : World) (hp : LinesAt w g ps) (hcg : g = none → cg = 0) (hl : IntsAt w a lo) (hc : a = none → ca = 0) (hh : IntsAt w b hi) (hd : b = none → cb = 0) :
    Calls Tryz.prog 3 #[.slice g ps.length cg, .agg #[.slice a lo.length ca, .slice b hi.length cb, .int .i64 out, .int .i64 mn, .int .i64 mx]] w fun e w' => e = .returned (.bool true) ∧ Below w.heap.size w w' := by
  clear hc hd hcg
  have HLG := Lib.hid (fun w => long_any g ps.length cg w)
  have HW := Lib.hid (fun w => wide_any a b ca cb lo.length hi.length out mn mx w)
  have HI := Lib.hid (boxC_new (a := a) (b := b) (n := lo.length) (m := hi.length) (ca := ca) (cb := cb) (out := out) (mn := mn) (mx := mx) w)
  have x0 := HI.out.c0
  have x1 := HI.out.c1
  have x2 := HI.out.c2
  have x3 := HI.out.c3
  have x4 := HI.out.c4
  by_cases h1 : 100 < ps.length
  · rw [show decide ((100 : Int) < (ps.length : Int)) = true from decide_eq_true (by omega)] at HLG
    clear h1 hp hl hh HW
    go_enter Tryz.func3, Tryz.ntmps3
    go_wp2_with fail
    refine (HLG.out _).mono ?_
    rintro e w0 ⟨rfl, rfl⟩
    go_wp2_with fail
    refine (known6_true _ ).mono ?_
    rintro e w1 ⟨rfl, hB⟩
    have HI := Lib.hid (HI.out.low hB)
    clear hB x0 x1 x2 x3 x4
    have x0 := HI.out.c0
    have x1 := HI.out.c1
    have x2 := HI.out.c2
    have x3 := HI.out.c3
    have x4 := HI.out.c4
    go_wp2_with fail
    go_ret
    exact ⟨rfl, HI.out.below⟩
  · have hps : ps.length ≤ 1000 := by omega
    rw [show decide ((100 : Int) < (ps.length : Int)) = false from decide_eq_false (by omega)] at HLG
    by_cases hbig : 100 < lo.length ∨ 100 < hi.length
    · rw [show decide (100 < lo.length ∨ 100 < hi.length) = true by simpa using hbig] at HW
      clear hbig hl hh hp h1
      go_enter Tryz.func3, Tryz.ntmps3
      go_wp2_with fail
      refine (HLG.out _).mono ?_
      rintro e w0 ⟨rfl, rfl⟩
      go_wp2_with fail
      refine (HW.out _ ).mono ?_
      rintro e w1 ⟨rfl, hB⟩
      have HI := Lib.hid (HI.out.low hB)
      clear hB x0 x1 x2 x3 x4
      have x0 := HI.out.c0
      have x1 := HI.out.c1
      have x2 := HI.out.c2
      have x3 := HI.out.c3
      have x4 := HI.out.c4
      go_wp2_with fail
      refine (known6_true _ ).mono ?_
      rintro e w2 ⟨rfl, hB⟩
      have HI := Lib.hid (HI.out.low hB)
      clear hB x0 x1 x2 x3 x4
      have x0 := HI.out.c0
      have x1 := HI.out.c1
      have x2 := HI.out.c2
      have x3 := HI.out.c3
      have x4 := HI.out.c4
      go_wp2_with fail
      go_ret
      exact ⟨rfl, HI.out.below⟩
    · have m1 : lo.length ≤ 1000 := by omega
      have m2 : hi.length ≤ 1000 := by omega
      rw [show decide (100 < lo.length ∨ 100 < hi.length) = false by simpa using hbig] at HW
      have HP := Lib.hid hp
      have HS := Lib.hid hl
      have HT := Lib.hid hh
      have C1 := Lib.hid (fun w h1 h2 h3 => sVerdict_any g a b cg ca cb ps lo hi out mn mx w h1 h2 h3 m1 m2)
      have C2 := Lib.hid (fun w h1 h2 h3 => rVerdict_any g a b cg ca cb ps lo hi out mn mx w h1 h2 h3)
      have C5 := Lib.hid (fun w h1 h2 h3 => keeps_any g a b cg ca cb ps lo hi out mn mx w h1 h2 h3 m1 m2)
      clear hbig hl hh hp h1
      by_cases hz : vpc ps lo hi out mn mx = 0
      · have hv : vdA ps lo hi out mn mx = if pvB ps (conB lo hi) out mn mx then 1 else if kpB ps lo hi out mn mx then 0 else -1 := by unfold vdA; rw [if_pos hz]
        have k1 : pvB ps (conB lo hi) out mn mx = true → kpB ps lo hi out mn mx = true := pv_kp hz
        rw [hv, hz] at C1 C2
        rw [hz] at C5
        generalize pvB ps (conB lo hi) out mn mx = P at *
        generalize kpB ps lo hi out mn mx = K at *
        clear hz hv
        cases P
        · cases K
          · clear k1
            replace C1 : Hid (∀ w, LinesAt w g ps → IntsAt w a lo → IntsAt w b hi → Calls _ _ _ w fun e w' => e = .returned (.tuple #[.int .i64 (-1), .int .i64 0]) ∧ Below w.heap.size w w') := C1
            replace C2 : Hid (∀ w, LinesAt w g ps → IntsAt w a lo → IntsAt w b hi → Calls _ _ _ w fun e w' => e = .returned (.tuple #[.int .i64 (-1), .int .i64 0]) ∧ Below w.heap.size w w') := C2
            go_enter Tryz.func3, Tryz.ntmps3
            go_wp2_with fail
            refine (HLG.out _).mono ?_
            rintro e w0 ⟨rfl, rfl⟩
            go_wp2_with fail
            refine (HW.out _ ).mono ?_
            rintro e w1 ⟨rfl, hB⟩
            have HI := Lib.hid (HI.out.low hB)
            clear hB x0 x1 x2 x3 x4
            have x0 := HI.out.c0
            have x1 := HI.out.c1
            have x2 := HI.out.c2
            have x3 := HI.out.c3
            have x4 := HI.out.c4
            go_wp2_with fail
            refine (C1.out _ (HP.out.below HI.out.below (Nat.le_refl _)) (HS.out.below HI.out.below (Nat.le_refl _)) (HT.out.below HI.out.below (Nat.le_refl _))).mono ?_
            rintro e w2 ⟨rfl, hB⟩
            have HI := Lib.hid (HI.out.low hB)
            clear hB x0 x1 x2 x3 x4
            have x0 := HI.out.c0
            have x1 := HI.out.c1
            have x2 := HI.out.c2
            have x3 := HI.out.c3
            have x4 := HI.out.c4
            go_wp2_with fail
            refine (C2.out _ (HP.out.below HI.out.below (Nat.le_refl _)) (HS.out.below HI.out.below (Nat.le_refl _)) (HT.out.below HI.out.below (Nat.le_refl _))).mono ?_
            rintro e w3 ⟨rfl, hB⟩
            have HI := Lib.hid (HI.out.low hB)
            clear hB x0 x1 x2 x3 x4
            have x0 := HI.out.c0
            have x1 := HI.out.c1
            have x2 := HI.out.c2
            have x3 := HI.out.c3
            have x4 := HI.out.c4
            go_wp2_with fail
            refine (C5.out _ (HP.out.below HI.out.below (Nat.le_refl _)) (HS.out.below HI.out.below (Nat.le_refl _)) (HT.out.below HI.out.below (Nat.le_refl _))).mono ?_
            rintro e w4 ⟨rfl, hB⟩
            have HI := Lib.hid (HI.out.low hB)
            clear hB x0 x1 x2 x3 x4
            have x0 := HI.out.c0
            have x1 := HI.out.c1
            have x2 := HI.out.c2
            have x3 := HI.out.c3
            have x4 := HI.out.c4
            go_wp2_with fail
            refine (known6_true _ ).mono ?_
            rintro e w5 ⟨rfl, hB⟩
            have HI := Lib.hid (HI.out.low hB)
            clear hB x0 x1 x2 x3 x4
            have x0 := HI.out.c0
            have x1 := HI.out.c1
            have x2 := HI.out.c2
            have x3 := HI.out.c3
            have x4 := HI.out.c4
            go_wp2_with fail
            go_ret
            exact ⟨rfl, HI.out.below⟩
          · clear k1
            replace C1 : Hid (∀ w, LinesAt w g ps → IntsAt w a lo → IntsAt w b hi → Calls _ _ _ w fun e w' => e = .returned (.tuple #[.int .i64 0, .int .i64 0]) ∧ Below w.heap.size w w') := C1
            replace C2 : Hid (∀ w, LinesAt w g ps → IntsAt w a lo → IntsAt w b hi → Calls _ _ _ w fun e w' => e = .returned (.tuple #[.int .i64 0, .int .i64 0]) ∧ Below w.heap.size w w') := C2
            go_enter Tryz.func3, Tryz.ntmps3
            go_wp2_with fail
            refine (HLG.out _).mono ?_
            rintro e w0 ⟨rfl, rfl⟩
            go_wp2_with fail
            refine (HW.out _ ).mono ?_
            rintro e w1 ⟨rfl, hB⟩
            have HI := Lib.hid (HI.out.low hB)
            clear hB x0 x1 x2 x3 x4
            have x0 := HI.out.c0
            have x1 := HI.out.c1
            have x2 := HI.out.c2
            have x3 := HI.out.c3
            have x4 := HI.out.c4
            go_wp2_with fail
            refine (C1.out _ (HP.out.below HI.out.below (Nat.le_refl _)) (HS.out.below HI.out.below (Nat.le_refl _)) (HT.out.below HI.out.below (Nat.le_refl _))).mono ?_
            rintro e w2 ⟨rfl, hB⟩
            have HI := Lib.hid (HI.out.low hB)
            clear hB x0 x1 x2 x3 x4
            have x0 := HI.out.c0
            have x1 := HI.out.c1
            have x2 := HI.out.c2
            have x3 := HI.out.c3
            have x4 := HI.out.c4
            go_wp2_with fail
            refine (C2.out _ (HP.out.below HI.out.below (Nat.le_refl _)) (HS.out.below HI.out.below (Nat.le_refl _)) (HT.out.below HI.out.below (Nat.le_refl _))).mono ?_
            rintro e w3 ⟨rfl, hB⟩
            have HI := Lib.hid (HI.out.low hB)
            clear hB x0 x1 x2 x3 x4
            have x0 := HI.out.c0
            have x1 := HI.out.c1
            have x2 := HI.out.c2
            have x3 := HI.out.c3
            have x4 := HI.out.c4
            go_wp2_with fail
            refine (C5.out _ (HP.out.below HI.out.below (Nat.le_refl _)) (HS.out.below HI.out.below (Nat.le_refl _)) (HT.out.below HI.out.below (Nat.le_refl _))).mono ?_
            rintro e w4 ⟨rfl, hB⟩
            have HI := Lib.hid (HI.out.low hB)
            clear hB x0 x1 x2 x3 x4
            have x0 := HI.out.c0
            have x1 := HI.out.c1
            have x2 := HI.out.c2
            have x3 := HI.out.c3
            have x4 := HI.out.c4
            go_wp2_with fail
            refine (known6_true _ ).mono ?_
            rintro e w5 ⟨rfl, hB⟩
            have HI := Lib.hid (HI.out.low hB)
            clear hB x0 x1 x2 x3 x4
            have x0 := HI.out.c0
            have x1 := HI.out.c1
            have x2 := HI.out.c2
            have x3 := HI.out.c3
            have x4 := HI.out.c4
            go_wp2_with fail
            go_ret
            exact ⟨rfl, HI.out.below⟩
        · cases K
          · exact absurd (k1 rfl) (by simp)
          · clear k1
            replace C1 : Hid (∀ w, LinesAt w g ps → IntsAt w a lo → IntsAt w b hi → Calls _ _ _ w fun e w' => e = .returned (.tuple #[.int .i64 1, .int .i64 0]) ∧ Below w.heap.size w w') := C1
            replace C2 : Hid (∀ w, LinesAt w g ps → IntsAt w a lo → IntsAt w b hi → Calls _ _ _ w fun e w' => e = .returned (.tuple #[.int .i64 1, .int .i64 0]) ∧ Below w.heap.size w w') := C2
            go_enter Tryz.func3, Tryz.ntmps3
            go_wp2_with fail
            refine (HLG.out _).mono ?_
            rintro e w0 ⟨rfl, rfl⟩
            go_wp2_with fail
            refine (HW.out _ ).mono ?_
            rintro e w1 ⟨rfl, hB⟩
            have HI := Lib.hid (HI.out.low hB)
            clear hB x0 x1 x2 x3 x4
            have x0 := HI.out.c0
            have x1 := HI.out.c1
            have x2 := HI.out.c2
            have x3 := HI.out.c3
            have x4 := HI.out.c4
            go_wp2_with fail
            refine (C1.out _ (HP.out.below HI.out.below (Nat.le_refl _)) (HS.out.below HI.out.below (Nat.le_refl _)) (HT.out.below HI.out.below (Nat.le_refl _))).mono ?_
            rintro e w2 ⟨rfl, hB⟩
            have HI := Lib.hid (HI.out.low hB)
            clear hB x0 x1 x2 x3 x4
            have x0 := HI.out.c0
            have x1 := HI.out.c1
            have x2 := HI.out.c2
            have x3 := HI.out.c3
            have x4 := HI.out.c4
            go_wp2_with fail
            refine (C2.out _ (HP.out.below HI.out.below (Nat.le_refl _)) (HS.out.below HI.out.below (Nat.le_refl _)) (HT.out.below HI.out.below (Nat.le_refl _))).mono ?_
            rintro e w3 ⟨rfl, hB⟩
            have HI := Lib.hid (HI.out.low hB)
            clear hB x0 x1 x2 x3 x4
            have x0 := HI.out.c0
            have x1 := HI.out.c1
            have x2 := HI.out.c2
            have x3 := HI.out.c3
            have x4 := HI.out.c4
            go_wp2_with fail
            refine (C5.out _ (HP.out.below HI.out.below (Nat.le_refl _)) (HS.out.below HI.out.below (Nat.le_refl _)) (HT.out.below HI.out.below (Nat.le_refl _))).mono ?_
            rintro e w4 ⟨rfl, hB⟩
            have HI := Lib.hid (HI.out.low hB)
            clear hB x0 x1 x2 x3 x4
            have x0 := HI.out.c0
            have x1 := HI.out.c1
            have x2 := HI.out.c2
            have x3 := HI.out.c3
            have x4 := HI.out.c4
            go_wp2_with fail
            refine (known6_true _ ).mono ?_
            rintro e w5 ⟨rfl, hB⟩
            have HI := Lib.hid (HI.out.low hB)
            clear hB x0 x1 x2 x3 x4
            have x0 := HI.out.c0
            have x1 := HI.out.c1
            have x2 := HI.out.c2
            have x3 := HI.out.c3
            have x4 := HI.out.c4
            go_wp2_with fail
            go_ret
            exact ⟨rfl, HI.out.below⟩
      · have hz1 : (vpc ps lo hi out mn mx != 0) = true := by simpa using hz
        have hz2 : (vpc ps lo hi out mn mx == 0) = false := by simpa using hz
        have n3 : (vpc ps lo hi out mn mx != vpc ps lo hi out mn mx) = false := by simp
        have n4 : (vdA ps lo hi out mn mx != vdA ps lo hi out mn mx) = false := by simp
        generalize vdA ps lo hi out mn mx = A at *
        generalize kpB ps lo hi out mn mx = K at *
        generalize vpc ps lo hi out mn mx = E at *
        clear hz
        go_enter Tryz.func3, Tryz.ntmps3
        go_wp2_with fail
        refine (HLG.out _).mono ?_
        rintro e w0 ⟨rfl, rfl⟩
        go_wp2_with fail
        refine (HW.out _ ).mono ?_
        rintro e w1 ⟨rfl, hB⟩
        have HI := Lib.hid (HI.out.low hB)
        clear hB x0 x1 x2 x3 x4
        have x0 := HI.out.c0
        have x1 := HI.out.c1
        have x2 := HI.out.c2
        have x3 := HI.out.c3
        have x4 := HI.out.c4
        go_wp2_with fail
        refine (C1.out _ (HP.out.below HI.out.below (Nat.le_refl _)) (HS.out.below HI.out.below (Nat.le_refl _)) (HT.out.below HI.out.below (Nat.le_refl _))).mono ?_
        rintro e w2 ⟨rfl, hB⟩
        have HI := Lib.hid (HI.out.low hB)
        clear hB x0 x1 x2 x3 x4
        have x0 := HI.out.c0
        have x1 := HI.out.c1
        have x2 := HI.out.c2
        have x3 := HI.out.c3
        have x4 := HI.out.c4
        go_wp2_with fail
        refine (C2.out _ (HP.out.below HI.out.below (Nat.le_refl _)) (HS.out.below HI.out.below (Nat.le_refl _)) (HT.out.below HI.out.below (Nat.le_refl _))).mono ?_
        rintro e w3 ⟨rfl, hB⟩
        have HI := Lib.hid (HI.out.low hB)
        clear hB x0 x1 x2 x3 x4
        have x0 := HI.out.c0
        have x1 := HI.out.c1
        have x2 := HI.out.c2
        have x3 := HI.out.c3
        have x4 := HI.out.c4
        go_wp2_with fail
        refine (C5.out _ (HP.out.below HI.out.below (Nat.le_refl _)) (HS.out.below HI.out.below (Nat.le_refl _)) (HT.out.below HI.out.below (Nat.le_refl _))).mono ?_
        rintro e w4 ⟨rfl, hB⟩
        have HI := Lib.hid (HI.out.low hB)
        clear hB x0 x1 x2 x3 x4
        have x0 := HI.out.c0
        have x1 := HI.out.c1
        have x2 := HI.out.c2
        have x3 := HI.out.c3
        have x4 := HI.out.c4
        go_wp2_with fail
        refine (known6_true _ ).mono ?_
        rintro e w5 ⟨rfl, hB⟩
        have HI := Lib.hid (HI.out.low hB)
        clear hB x0 x1 x2 x3 x4
        have x0 := HI.out.c0
        have x1 := HI.out.c1
        have x2 := HI.out.c2
        have x3 := HI.out.c3
        have x4 := HI.out.c4
        go_wp2_with fail
        go_ret
        exact ⟨rfl, HI.out.below⟩

end Go.Proofs.YtmpgaccpdglhkaaGreat
