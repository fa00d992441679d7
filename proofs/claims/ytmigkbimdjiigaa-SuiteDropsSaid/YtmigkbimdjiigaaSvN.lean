/- Several texts in one. -/
import Derived.Test.YtmigkbimdjiigaaSvM
import Derived.Test.YtmigkbimdjiigaaSuX
import Derived.ArgAppend
import Derived.Test.YtmigkbimdjiigaaSuV
/- Suites of the document: Without: contract. -/
set_option linter.unusedVariables false
set_option linter.unusedSimpArgs false
namespace Go.Proofs.Ytmigkbimdjiigaa
open Go.RowKit Tinker

theorem own_cap8 {w : World} {base g n size c : Nat} {e : TypeId} {xs : List Value} (h : w.ownsRow base e size (.slice (some ⟨g, 0, none⟩) n c) n xs) : n ≤ c := by
  rcases h.2 with ⟨he, _⟩ | ⟨g', cap, cur, he, _, _, hn, _⟩
  · cases he
  · injection he with _ _ h3
    omega
theorem wp_append_arg8 {w : World} {o : Oper} {a : Act} {K : Act → World → Prop} {Q : Exit → Act → World → Prop} (s x : Operand) (t : TypeId)
    (hop : o.op = Op.call { callee := Callee.builtin Builtin.append, args := #[s, x], argTypes := #[t, t] })
    (e : TypeId) (i : TypeInfo) (z : Value) (size bytes : Nat) (h1 : Try.prog.underlying t = some (.slice e)) (h2 : Try.prog.info? e = some i) (h3 : i.zero = some z) (h4 : i.size = size) (h5 : i.bytes = bytes) (h6 : z.cells.size = size) (h7 : 0 < size)
    (b off n cap : Nat) (olds : List Value) (hs : a.eval s = .slice (some ⟨b, off, none⟩) n cap) (hlo : olds.length = n * size) (holds : ∀ j u, olds[j]? = some u → w.cell? ⟨b, off + j, none⟩ = some u)
    (ad : Addr) (m c : Nat) (news : List Value) (hx : a.eval x = .slice (some ad) m c) (hn : news.length = m * size) (hc : ∀ j u, news[j]? = some u → w.cell? (ad.add j) = some u) (h1c : ∀ u ∈ news, u.oneCell' = true)
    (hcap : cap = n) (b1 : n + m ≤ maxLen) (b2 : (n + m) * bytes ≤ 140737488355328)
    (hroom : m = 0 → K (a.put o.dst (.slice (some ⟨b, off, none⟩) (n + m) cap)) (w.setCells b (off + n * size) news))
    (hgrow : 0 < m → ∀ v' w', w'.ownsRow w.heap.size e size v' (n + m) (olds ++ news) → w.grownBy w' none → K (a.put o.dst v') w') :
    o.wp Try.prog a w K Q := by
  by_cases hr : n + m ≤ cap
  · have hm0 : m = 0 := by omega
    have hn0 : news = [] := List.eq_nil_of_length_eq_zero (by rw [hn, hm0]; simp)
    subst h4
    have hrun := run_append_room_cells (P := Try.prog) w t o.type e i h1 h2 b off n cap ad m c news hn hc h1c hr (fun j hj => by rw [hn0] at hj; simp at hj) (fun j hj => by rw [hn0] at hj; simp at hj)
    unfold Oper.wp
    simp [execOp, hop, resolve, invoke, builtin, hs, hx, hrun, Result.andThen]
    exact hroom hm0
  · obtain ⟨v', w', hrun, r1, r2⟩ := run_append_arg_grows (P := Try.prog) w t o.type e i z size bytes h1 h2 h3 h4 h5 h6 h7 ⟨b, off, none⟩ n cap olds hlo (fun j u hj => by rw [Addr.add_lit]; exact holds j u hj) ad m c news hn hc (by omega) b1 b2
    unfold Oper.wp
    simp [execOp, hop, resolve, invoke, builtin, hs, hx, hrun, Result.andThen]
    exact hgrow (by omega) v' w' r1 r2

theorem RowsAt.take8 {w : World} {g : Option Addr} {fs : List (List Int)} (h : RowsAt w g fs) (n : Nat) : RowsAt w g (fs.take n) := by
  rcases h with h | ⟨b, off, e, hlt, hc⟩
  · exact .inl (by rw [h]; simp)
  · refine .inr ⟨b, off, e, hlt, fun j zs hj => ?_⟩
    rw [List.getElem?_take] at hj
    split at hj
    · exact hc j zs hj
    · cases hj
theorem rows_own8 {W : World} {base base2 n : Nat} {v : Value} {fs : List (List Int)} {xs : List Value} (ho : W.ownsRow base 23 1 v n xs) (hn : fs.length = n) (hc : RowC W base2 none fs xs) : ∃ a c, v = .slice a n c ∧ RowsAt W a fs := by
  obtain ⟨a, c, rfl⟩ := own_slice ho
  refine ⟨a, c, rfl, ?_⟩
  rcases Nat.eq_zero_or_pos n with h0 | h0
  · exact .inl (List.eq_nil_of_length_eq_zero (by omega))
  · obtain ⟨g, rfl⟩ := own_form ho h0
    refine .inr ⟨g, 0, rfl, own_lt ho, fun j zs hj => ?_⟩
    obtain ⟨a', c', h1, h2⟩ := hc j zs hj
    exact ⟨a', c', by rw [Nat.zero_add]; exact own_cell ho h1, h2.at_⟩
/-- Rows in memory, and an error. -/
def GivesRowsA8 (fs : List (List Int)) (c : Int) (w : World) (e : Ending) (w' : World) : Prop :=
  ∃ a cap, e = .returned (.tuple #[.slice a fs.length cap, .int .i64 c]) ∧ RowsAt w' a fs ∧ Below w.heap.size w w'

set_option maxRecDepth 100000 in
set_option maxHeartbeats 2000000 in
theorem rWou8_any (a : Option Addr) (ca : Nat) (t : List (List Int)) (r : Int) (w : World) (ht : RowsN w a t) (hl : t.length ≤ 1000) (hm : ∀ z ∈ t, z.length ≤ 1000) :
    Calls Try.prog 51 #[.slice a t.length ca, .int .i64 r] w (GivesRowsA8 (if wouE t r = 0 then wouL t r else []) (wouE t r) w) := by
  have HV := Lib.hid (rValidate8_any a ca t w ht.at_ hl hm)
  by_cases hv : vsu t = 0
  · rw [hv] at HV
    by_cases hr : 0 ≤ r ∧ r < (t.length : Int)
    · have hE : wouE t r = 0 := by unfold wouE; rw [if_pos hv, if_pos hr]
      rw [hE, if_pos rfl]
      obtain ⟨n, rfl⟩ : ∃ n : Nat, r = (n : Int) := ⟨r.toNat, by omega⟩
      have hn : n < t.length := by omega
      obtain ⟨j0, hjj, jz0, jz1, jz2⟩ := info_parts info_ints
      have d1 : decide ((n : Int) < 0) = false := decide_eq_false (by omega)
      have d2 : decide ((t.length : Int) ≤ (n : Int)) = false := decide_eq_false (by omega)
      have d3 : decide (t.length ≤ n) = false := decide_eq_false (by omega)
      have HC := Lib.hid (fun w h => rCopy8_any a ca t w h hl hm)
      have HT := Lib.hid ht
      have HW := Lib.hid (show wouL t (n : Int) = t.take n ++ t.drop (n + 1) from rfl)
      generalize wouL t (n : Int) = WL at *
      generalize hN : t.length = N at *
      have HN := Lib.hid hN
      clear hv ht hm hr hE hN
      go_enter Try.func51, Try.ntmps51
      go_wp2_with fail
      refine HV.out.mono ?_
      rintro e w1 ⟨rfl, hB⟩
      have HB := Lib.hid hB
      clear hB
      go_wp2_with fail
      refine (HC.out _ (HT.out.below HB.out (Nat.le_refl _))).mono ?_
      rintro e w2 ⟨b2, c2, xs, rfl, hI⟩
      clear d1 d2 d3
      have hown := hI.out
      rw [HN.out] at hown
      obtain ⟨g, rfl⟩ := own_form hown (by omega)
      have hcap := own_cap8 hown
      have hcap2 : (n : Int) ≤ (c2 : Int) := by omega
      have hcap3 : (n : Int) + 1 ≤ (N : Int) := by omega
      have hcap4 : (N : Int) ≤ (c2 : Int) := by omega
      have hcap5 : (0 : Int) ≤ (n : Int) + 1 := by omega
      have hxl : xs.length = N := by simpa using hown.1
      have HXL := Lib.hid hxl
      have HO := Lib.hid hown
      have HI := Lib.hid hI
      have HB2 := Lib.hid (HB.out.trans (hI.below.mono HB.out.size))
      have hw : IntKind.i64.wrap ((n : Int) + 1) = (n : Int) + 1 := IntWalk.i64_in _ (by omega)
      obtain ⟨q, hif, hq⟩ : ∃ q : Nat, (if c2 = n + 1 then (some ⟨g, 0, none⟩ : Option Addr) else some ⟨g, n + 1, none⟩) = some ⟨g, q, none⟩ ∧ (n + 1 < N → q = n + 1) := by
        by_cases hvj : c2 = n + 1
        · exact ⟨0, by rw [if_pos hvj], fun h => by omega⟩
        · exact ⟨n + 1, by rw [if_neg hvj], fun _ => rfl⟩
      have HQ := Lib.hid hq
      clear hown hI hxl hq
      go_wp2_with fail
      refine wp_region_held_drew (S := (fun _ => True)) (by kernel_rfl) ?_ (fun hHeld => ?_)
      · exact trivial
      refine wpAnyH_take (i := 0) (oi := ?oiq1) (v := ?vq1) ?hiq1 (by kernel_rfl) (by kernel_rfl) (by kernel_rfl) ?hqq1 ?hyq1 hHeld ?restq1
      case hiq1 => exact rfl
      case hqq1 => exact fun _ _ _ h => h
      case hyq1 =>
        refine Or.inl ⟨by rfl, ?_⟩
        intro w hSw
        go_simp
        (try with_reducible rfl)
      try simp only [Act.put, List.getElem_toArray, List.getElem_cons_succ, List.getElem_cons_zero, List.setIfInBounds_toArray, List.set_cons_zero, List.set_cons_succ]
      refine wpAnyH_take (i := 1) (oi := ?oiq2) (v := ?vq2) ?hiq2 (by kernel_rfl) (by kernel_rfl) (by kernel_rfl) ?hqq2 ?hyq2 hHeld ?restq2
      case hiq2 => exact rfl
      case hqq2 => exact fun _ _ _ h => h
      case hyq2 =>
        refine Or.inl ⟨by rfl, ?_⟩
        intro w hSw
        go_simp
        (try with_reducible rfl)
      try simp only [Act.put, List.getElem_toArray, List.getElem_cons_succ, List.getElem_cons_zero, List.setIfInBounds_toArray, List.set_cons_zero, List.set_cons_succ]
      refine wpAnyH_take (i := 2) (oi := ?oiq3) (v := ?vq3) ?hiq3 (by kernel_rfl) (by kernel_rfl) (by kernel_rfl) ?hqq3 ?hyq3 hHeld ?restq3
      case hiq3 => exact rfl
      case hqq3 => exact fun _ _ _ h => h
      case hyq3 =>
        refine Or.inl ⟨by rfl, ?_⟩
        intro w hSw
        go_simp
        (try with_reducible rfl)
      try simp only [Act.put, List.getElem_toArray, List.getElem_cons_succ, List.getElem_cons_zero, List.setIfInBounds_toArray, List.set_cons_zero, List.set_cons_succ]
      refine wpAnyH_take (i := 3) (oi := ?oiq4) (v := ?vq4) ?hiq4 (by kernel_rfl) (by kernel_rfl) (by kernel_rfl) ?hqq4 ?hyq4 hHeld ?restq4
      case hiq4 => exact rfl
      case hqq4 => exact fun _ _ _ h => h
      case hyq4 =>
        refine Or.inl ⟨by rfl, ?_⟩
        intro w hSw
        go_simp
        (try with_reducible rfl)
      try simp only [Act.put, List.getElem_toArray, List.getElem_cons_succ, List.getElem_cons_zero, List.setIfInBounds_toArray, List.set_cons_zero, List.set_cons_succ]
      refine wpAnyH_take (i := 4) (oi := ?oiq5) (v := ?vq5) ?hiq5 (by kernel_rfl) (by kernel_rfl) (by kernel_rfl) ?hqq5 ?hyq5 hHeld ?restq5
      case hiq5 => exact rfl
      case hqq5 => exact fun _ _ _ h => h
      case hyq5 =>
        refine Or.inl ⟨by rfl, ?_⟩
        intro w hSw
        go_simp
        (try with_reducible rfl)
      try simp only [Act.put, List.getElem_toArray, List.getElem_cons_succ, List.getElem_cons_zero, List.setIfInBounds_toArray, List.set_cons_zero, List.set_cons_succ]
      refine wpAnyH_take (i := 5) (oi := ?oiq6) (v := ?vq6) ?hiq6 (by kernel_rfl) (by kernel_rfl) (by kernel_rfl) ?hqq6 ?hyq6 hHeld ?restq6
      case hiq6 => exact rfl
      case hqq6 => exact fun _ _ _ h => h
      case hyq6 =>
        refine Or.inl ⟨by rfl, ?_⟩
        intro w hSw
        go_simp
        (try with_reducible rfl)
      try simp only [Act.put, List.getElem_toArray, List.getElem_cons_succ, List.getElem_cons_zero, List.setIfInBounds_toArray, List.set_cons_zero, List.set_cons_succ]
      refine wpAnyH_take (i := 6) (oi := ?oiq7) (v := (.int .i64 ((n : Int) + 1))) ?hiq7 (by kernel_rfl) (by kernel_rfl) (by kernel_rfl) ?hqq7 ?hyq7 hHeld ?restq7
      case hiq7 => exact rfl
      case hqq7 => exact fun _ _ _ h => h
      case hyq7 =>
        refine Or.inl ⟨by rfl, ?_⟩
        intro w hSw
        go_simp
        (try with_reducible rfl)
      try simp only [Act.put, List.getElem_toArray, List.getElem_cons_succ, List.getElem_cons_zero, List.setIfInBounds_toArray, List.set_cons_zero, List.set_cons_succ]
      refine wpAnyH_take (i := 7) (oi := ?oiq8) (v := ?vq8) ?hiq8 (by kernel_rfl) (by kernel_rfl) (by kernel_rfl) ?hqq8 ?hyq8 hHeld ?restq8
      case hiq8 => exact rfl
      case hqq8 => exact fun _ _ _ h => h
      case hyq8 =>
        refine Or.inl ⟨by rfl, ?_⟩
        intro w hSw
        go_simp
        (try with_reducible rfl)
      try simp only [Act.put, List.getElem_toArray, List.getElem_cons_succ, List.getElem_cons_zero, List.setIfInBounds_toArray, List.set_cons_zero, List.set_cons_succ]
      refine wpAnyH_ready (rs := [8]) (by kernel_rfl) (by simp) ?_
      refine AllReadyH.cons (o := ?oz8) ?hz8 ?kz8 AllReadyH.nil
      case hz8 => exact rfl
      case kz8 =>
        intro Kz hKz
        rw [if_pos (by rfl)]
        refine wp_append_arg8 (.tmp 26) (.tmp 30) 22 rfl 23 j0 (.slice none 0 0) 1 24 Try.underlying22 hjj jz0 jz1 jz2 rfl (by decide) g 0 n n (xs.take n) rfl ?h1 ?h2 ⟨g, q, none⟩ (N - (n + 1)) (c2 - (n + 1)) (xs.drop (n + 1)) rfl ?h3 ?h4 ?h5 rfl ?h6 ?h7 ?h8 ?h9
        case h1 => rw [List.length_take, HXL.out]; omega
        case h2 =>
          intro j u hu
          rw [List.getElem?_take] at hu
          split at hu
          · rw [Nat.zero_add]; exact own_cell HO.out hu
          · cases hu
        case h3 => rw [List.length_drop, HXL.out]; omega
        case h4 =>
          intro j u hu
          rw [List.getElem?_drop] at hu
          have hlt := (List.getElem?_eq_some_iff.1 hu).1
          rw [HXL.out] at hlt
          rw [Addr.add_mid, HQ.out (by omega)]
          exact own_cell HO.out hu
        case h5 => exact fun u hu => RowC.oneCell8 HI.out.st (by rw [HXL.out, HN.out]) u (List.drop_subset _ _ hu)
        case h6 => unfold maxLen; omega
        case h7 => omega
        case h8 =>
          intro h0
          refine hKz.out _ _ trivial (fun hHeld => ?_)
          clear hKz Kz
          try simp only [Act.put, List.getElem_toArray, List.getElem_cons_succ, List.getElem_cons_zero, List.setIfInBounds_toArray, List.set_cons_zero, List.set_cons_succ]
          refine wpAnyH_take (i := 9) (oi := ?oiq9) (v := ?vq9) ?hiq9 (by kernel_rfl) (by kernel_rfl) (by kernel_rfl) ?hqq9 ?hyq9 hHeld ?restq9
          case hiq9 => exact rfl
          case hqq9 => exact fun _ _ _ h => h
          case hyq9 =>
            refine Or.inl ⟨by rfl, ?_⟩
            intro w hSw
            go_simp
            (try with_reducible rfl)
          try simp only [Act.put, List.getElem_toArray, List.getElem_cons_succ, List.getElem_cons_zero, List.setIfInBounds_toArray, List.set_cons_zero, List.set_cons_succ]
          refine wpAnyH_take (i := 10) (oi := ?oiq10) (v := ?vq10) ?hiq10 (by kernel_rfl) (by kernel_rfl) (by kernel_rfl) ?hqq10 ?hyq10 hHeld ?restq10
          case hiq10 => exact rfl
          case hqq10 => exact fun _ _ _ h => h
          case hyq10 =>
            refine Or.inl ⟨by rfl, ?_⟩
            intro w hSw
            go_simp
            (try with_reducible rfl)
          try simp only [Act.put, List.getElem_toArray, List.getElem_cons_succ, List.getElem_cons_zero, List.setIfInBounds_toArray, List.set_cons_zero, List.set_cons_succ]
          refine wpAnyH_done (by kernel_rfl) ?_ _
          clear hHeld
          have hn1 : n + 1 = N := by omega
          have hdn : xs.drop (n + 1) = [] := List.drop_of_length_le (by rw [HXL.out]; omega)
          have hWL : WL = t.take n := by rw [HW.out, List.drop_of_length_le (by rw [HN.out]; omega), List.append_nil]
          have hWN : (t.take n).length = n := by rw [List.length_take, HN.out]; omega
          rw [hdn]
          have HWL := Lib.hid hWL
          have HWN := Lib.hid hWN
          have HRR := Lib.hid (HI.out.at_.1)
          clear hdn hWL hWN hn1 h0
          go_wp2_with fail
          go_ret2
          rw [HWL.out]
          exact ⟨some ⟨g, 0, none⟩, n, by rw [HWN.out]; rfl, (RowsAt.take8 HRR.out n).below (Below.refl _ _).drew (Nat.le_refl _), HB2.out.trans ((Below.refl _ _).drew.mono HB2.out.size)⟩
        case h9 =>
          intro h0 v3 w3 hown3 hgrow3
          refine hKz.out _ _ trivial (fun hHeld => ?_)
          clear hKz Kz
          try simp only [Act.put, List.getElem_toArray, List.getElem_cons_succ, List.getElem_cons_zero, List.setIfInBounds_toArray, List.set_cons_zero, List.set_cons_succ]
          refine wpAnyH_take (i := 9) (oi := ?oiq11) (v := ?vq11) ?hiq11 (by kernel_rfl) (by kernel_rfl) (by kernel_rfl) ?hqq11 ?hyq11 hHeld ?restq11
          case hiq11 => exact rfl
          case hqq11 => exact fun _ _ _ h => h
          case hyq11 =>
            refine Or.inl ⟨by rfl, ?_⟩
            intro w hSw
            go_simp
            (try with_reducible rfl)
          try simp only [Act.put, List.getElem_toArray, List.getElem_cons_succ, List.getElem_cons_zero, List.setIfInBounds_toArray, List.set_cons_zero, List.set_cons_succ]
          refine wpAnyH_take (i := 10) (oi := ?oiq12) (v := ?vq12) ?hiq12 (by kernel_rfl) (by kernel_rfl) (by kernel_rfl) ?hqq12 ?hyq12 hHeld ?restq12
          case hiq12 => exact rfl
          case hqq12 => exact fun _ _ _ h => h
          case hyq12 =>
            refine Or.inl ⟨by rfl, ?_⟩
            intro w hSw
            go_simp
            (try with_reducible rfl)
          try simp only [Act.put, List.getElem_toArray, List.getElem_cons_succ, List.getElem_cons_zero, List.setIfInBounds_toArray, List.set_cons_zero, List.set_cons_succ]
          refine wpAnyH_done (by kernel_rfl) ?_ _
          clear hHeld
          have hB3 : Below w2.heap.size w2 w3 := ((Below.refl _ _).drew).grown hgrow3 (by simp) (by rintro k hk; cases hk)
          have hst := RowC.low8 (RowC.app8 (RowC.take8 (RowC.none_of8 HI.out.st) n) (RowC.drop8 (RowC.none_of8 HI.out.st) (n + 1)) (by rw [List.length_take, List.length_take, HXL.out, HN.out])) hB3
          have hlen : (t.take n ++ t.drop (n + 1)).length = n + (N - (n + 1)) := by rw [List.length_append, List.length_take, List.length_drop, HN.out]; omega
          obtain ⟨a9, c9, hv9, hR9⟩ := rows_own8 hown3 hlen hst
          rw [← HW.out] at hlen hR9
          have HLN := Lib.hid hlen
          have HR9 := Lib.hid hR9
          have HB9 := Lib.hid (HB2.out.trans (hB3.mono HB2.out.size))
          subst hv9
          clear hB3 hst hlen hR9 hown3 hgrow3 h0
          go_wp2_with fail
          go_ret2
          exact ⟨a9, c9, by rw [HLN.out]; rfl, HR9.out, HB9.out⟩
    · have hE : wouE t r = 4 := by unfold wouE; rw [if_pos hv, if_neg hr]
      rw [hE, if_neg (by decide)]
      have hd : decide (r < 0) = true ∨ (decide (r < 0) = false ∧ decide ((t.length : Int) ≤ r) = true) := by
        by_cases h : r < 0
        · exact .inl (decide_eq_true h)
        · exact .inr ⟨decide_eq_false h, decide_eq_true (by omega)⟩
      clear hv ht hl hm hr hE
      rcases hd with d1 | ⟨d1, d2⟩
      · go_enter Try.func51, Try.ntmps51
        go_wp2_with fail
        refine HV.out.mono ?_
        rintro e w1 ⟨rfl, hB⟩
        have HB := Lib.hid hB
        clear hB
        go_wp2_with fail
        go_ret2
        exact ⟨none, 0, rfl, .inl rfl, HB.out⟩
      · go_enter Try.func51, Try.ntmps51
        go_wp2_with fail
        refine HV.out.mono ?_
        rintro e w1 ⟨rfl, hB⟩
        have HB := Lib.hid hB
        clear hB
        go_wp2_with fail
        go_ret2
        exact ⟨none, 0, rfl, .inl rfl, HB.out⟩
  · have hE : wouE t r = vsu t := by unfold wouE; rw [if_neg hv]
    rw [hE, if_neg hv]
    have hne : (vsu t != 0) = true := by simpa using hv
    clear hv ht hm hE
    go_enter Try.func51, Try.ntmps51
    go_wp2_with fail
    refine HV.out.mono ?_
    rintro e w1 ⟨rfl, hB⟩
    have HB := Lib.hid hB
    clear hB
    go_wp2_with fail
    go_ret2
    exact ⟨none, 0, rfl, .inl rfl, HB.out⟩

end Go.Proofs.Ytmigkbimdjiigaa

/- Suites of the document: Copy, with the room of its rows: contract. -/
set_option linter.unusedVariables false
set_option linter.unusedSimpArgs false
namespace Go.Proofs.Ytmigkbimdjiigaa
open Go.RowKit Tinker

/-- A slice that is no longer than its room. -/
def CapV (v : Value) : Prop := ∀ (a : Option Addr) (n c : Nat), v = .slice a n c → n ≤ c
theorem capv_push {xs : List Value} {a : Option Addr} {n c : Nat} (h : ∀ v ∈ xs, CapV v) (hc : n ≤ c) : ∀ v ∈ xs ++ [.slice a n c], CapV v := fun v hv => by
  rcases List.mem_append.1 hv with h1 | h1
  · exact h v h1
  · rw [List.mem_singleton.1 h1]
    intro a' n' c' e
    injection e with e1 e2 e3
    omega
theorem own_capA {w : World} {base n size c : Nat} {e : TypeId} {a : Option Addr} {xs : List Value} (h : w.ownsRow base e size (.slice a n c) n xs) : n ≤ c := by
  rcases h.2 with ⟨he, _⟩ | ⟨g', cap, cur, he, _, _, hn, _⟩
  · injection he with _ h2 h3
    omega
  · injection he with _ _ h3
    omega

set_option maxRecDepth 100000 in
set_option maxHeartbeats 4000000 in
theorem rCopy8c_any (a : Option Addr) (ca : Nat) (t : List (List Int)) (w : World) (ht : RowsN w a t) (hl : t.length ≤ 1000) (hm : ∀ z ∈ t, z.length ≤ 1000) :
    Calls Try.prog 49 #[.slice a t.length ca] w fun e w' => ∃ b c xs, e = .returned (.slice b t.length c) ∧ RowsI w (.slice b t.length c) t xs w' ∧ ∀ v ∈ xs, CapV v := by
  obtain ⟨i0, hii, hz0, hz1, hz2⟩ := info_parts info_int
  obtain ⟨j0, hjj, jz0, jz1, jz2⟩ := info_parts info_ints
  have HT := Lib.hid ht
  have HM := Lib.hid hm
  clear ht hm
  go_enter Try.func49, Try.ntmps49
  go_wp2_with fail
  go_loopw [3, 4] (fun s3 s4 wr => ∃ (k : Nat) (xs : List Value), k ≤ t.length ∧ s4 = .int .i64 k ∧ RowsI w s3 (t.take k) xs wr ∧ ∀ v ∈ xs, CapV v) (fun _ s4 _ => t.length - (intOf s4).toNat)
  case atStart => exact ⟨0, [], Nat.zero_le _, rfl, by simpa using RowsI.nil (Below.refl _ _), by simp⟩
  case round =>
    obtain ⟨k, xs, hk, rfl, hI, hcv⟩ := hrel
    have HCV := Lib.hid hcv
    clear hcv
    by_cases hlt : k < t.length
    · obtain ⟨b3, off3, z, a3, c3, rfl, hlb3, hz, d3, hi3, hn3⟩ := (HT.out.below hI.below (Nat.le_refl _)).get hlt
      have HTK := Lib.hid (show t.take (k + 1) = t.take k ++ [z] by rw [List.take_add_one, hz]; rfl)
      have hzl := HM.out z (mem_of_get hz)
      have htl : (t.take k).length = k := by rw [List.length_take]; omega
      have HTL := Lib.hid htl
      obtain ⟨va, vc, rfl⟩ := own_slice hI.out
      have hws := hI.below.size
      have hown0 := World.ownsRow_lit (base := wr.heap.size) (e := 3) (size := 1) wr #[] 0 (Nat.le_refl _) (by simp [maxLen]) (by simp)
      have HAP := Lib.hid (show ∀ b, wr.heap.size ≤ b → (Value.slice va (t.take k).length vc).ownBlock ≠ some b from fun b hb e => by have := (hI.out.lt b e).2; omega)
      have HI := Lib.hid hI
      clear hz hI htl
      generalize t.take k = TK at *
      cases a3 with
      | none =>
        have hc0 := hn3 rfl
        subst hc0
        have hz0' := hi3.none
        subst hz0'
        have hB1 : Below wr.heap.size wr (wr.alloc (.cells #[] 3)) := (Below.refl _ _).alloc (Nat.le_refl _) _
        have HR3 := Lib.hid ((HI.out.low hB1).low ((Below.refl _ _).alloc (Nat.le_refl _) (.cells #[.slice (some ⟨wr.heap.size, 0, none⟩) 0 0] 23)))
        have HC1 := Lib.hid (cell_one_new (wr.alloc (.cells #[] 3)) (.slice (some ⟨wr.heap.size, 0, none⟩) 0 0) 23)
        have HOL := Lib.hid (show OwnL ((wr.alloc (.cells #[] 3)).alloc (.cells #[.slice (some ⟨wr.heap.size, 0, none⟩) 0 0] 23)) w.heap.size (Value.slice va TK.length vc).ownBlock (some ⟨wr.heap.size, 0, none⟩) [] from .inl rfl)
        go_wp2_with (at_builtin; (refine wpList_append_own_at _ rfl (.tmp 11) (.tmp 18) 22 rfl w.heap.size 23 j0 (.slice none 0 0) 1 24 Try.underlying22 hjj jz0 jz1 jz2 rfl (by decide) _ _ xs rfl HR3.out.out ⟨wr.heap.size + 1, 0, none⟩ 1 1 [.slice (some ⟨wr.heap.size, 0, none⟩) 0 0] rfl ?p1 ?p2 ?p3 ?p4 ?p5 ?p6 ?_))
        try (case p1 => rfl)
        try (case p2 => first | exact HC1.out | (have h9 := HC1.out; simpa using h9))
        try (case p3 => simp [Value.oneCell'])
        case p4 => unfold maxLen; have := HTL.out; omega
        case p5 => have := HTL.out; omega
        case p6 => have := HR3.out.below.size; simp at this ⊢; omega
        intro v3 w3 hown3 hgrow3 _ hat3
        have hP := HR3.out.push (zs := ([] : List Int)) (c := 0) HOL.out hown3 hgrow3 (by simpa using hat3)
        rw [← HTK.out] at hP
        have HP := Lib.hid hP
        clear hown3 hgrow3 hat3 hP HR3
        go_wp2_with fail
        go_roundw
        case rel => exact ⟨k + 1, _, by omega, by go_num, HP.out, capv_push HCV.out (Nat.le_refl _)⟩
        case measure => simp [intOf]; omega
      | some q =>
        have HCL := Lib.hid hi3.cells
        have HLZ := Lib.hid (show (z.map (Value.int .i64)).length = z.length * 1 by rw [List.length_map, Nat.mul_one])
        clear hi3 hn3
        go_wp2_with (at_builtin; (refine wpList_append_own _ rfl (.tmp 12) (.tmp 16) 23 rfl wr.heap.size 3 i0 (.int .i64 0) 1 8 Try.underlying23 hii hz0 hz1 hz2 rfl (by decide) _ 0 [] rfl hown0 q z.length c3 (z.map (Value.int .i64)) rfl ?c1 ?c2 ?c3 ?c4 ?c5 ?c6 ?_))
        case c2 => exact fun j u hu => cell_alloc_keep (HCL.out j (.int .i64 u) (by simp [hu]))
        case c3 => simp [Value.oneCell']
        case c4 => simp [maxLen]; omega
        case c5 => omega
        intro v' W1 hown1 hgrow _
        have hB1 : Below wr.heap.size wr W1 := ((Below.refl _ _).alloc (Nat.le_refl _) _).grown hgrow (by simp) (by rintro k hk; simp [Value.ownBlock] at hk; omega)
        have hown1' : W1.ownsRow wr.heap.size 3 1 v' z.length (z.map (Value.int .i64)) := by simpa using hown1
        obtain ⟨a2, k2, rfl⟩ := own_slice hown1'
        have HC9 := Lib.hid (own_capA hown1')
        have hal : Below W1.heap.size W1 (W1.alloc (.cells #[.slice a2 z.length k2] 23)) := (Below.refl _ _).alloc (Nat.le_refl _) _
        have HOL := Lib.hid (((apart8 (o := (Value.slice va TK.length vc).ownBlock) (ownL_of hown1') (fun b hb => HAP.out b hb)).wide hws).low hal)
        have HR3 := Lib.hid ((HI.out.low hB1).low hal)
        clear hown0 hgrow hown1 hown1' hal hB1 HI HCL HLZ
        go_wp2_with (at_builtin; (refine wpList_append_own_at _ rfl (.tmp 11) (.tmp 18) 22 rfl w.heap.size 23 j0 (.slice none 0 0) 1 24 Try.underlying22 hjj jz0 jz1 jz2 rfl (by decide) _ _ xs rfl HR3.out.out ⟨W1.heap.size, 0, none⟩ 1 1 [.slice a2 z.length k2] rfl ?r1 ?r2 ?r3 ?r4 ?r5 ?r6 ?_))
        case r1 => rfl
        case r2 => exact cell_one_new _ _ _
        case r3 => simp [Value.oneCell']
        case r4 => unfold maxLen; have := HTL.out; omega
        case r5 => have := HTL.out; omega
        case r6 => have := HR3.out.below.size; simp at this ⊢; omega
        intro v3 w3 hown3 hgrow3 _ hat3
        have hP := HR3.out.push (zs := z) (c := k2) HOL.out hown3 hgrow3 (by simpa using hat3)
        rw [← HTK.out] at hP
        have HP := Lib.hid hP
        clear hown3 hgrow3 hat3 hP HR3
        go_wp2_with fail
        go_roundw
        case rel => exact ⟨k + 1, _, by omega, by go_num, HP.out, capv_push HCV.out HC9.out⟩
        case measure => simp [intOf]; omega
    · obtain rfl : k = t.length := by omega
      rw [List.take_length] at hI
      obtain ⟨va, vc, rfl⟩ := own_slice hI.out
      have HI := Lib.hid hI
      clear hI
      go_wp2_with fail
      go_ret
      exact ⟨va, vc, xs, rfl, HI.out, HCV.out⟩


end Go.Proofs.Ytmigkbimdjiigaa
