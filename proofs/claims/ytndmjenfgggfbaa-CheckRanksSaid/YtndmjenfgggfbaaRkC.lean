/- The order of all lines: the closure of Rank, the library's sort: contracts. -/
import Derived.Test.YtndmjenfgggfbaaRkB
import Derived.Deep.MidRow
set_option linter.unusedVariables false
set_option linter.unusedSimpArgs false
namespace Go.Proofs.Ytndmjenfgggfbaa
open Go.RowKit Tinker

/-- What the closure of Rank answers. -/
def rkC (qs : List (Int × Int)) (i j : Nat) : Int := cmpI ((qs.getD j (0, 1)).1 * (qs.getD i (0, 1)).2) ((qs.getD i (0, 1)).1 * (qs.getD j (0, 1)).2)
theorem rkC_neg {qs : List (Int × Int)} {i j : Nat} : rkC qs i j < 0 ↔ ltQ (qs.getD j (0, 1)) (qs.getD i (0, 1)) = true := by
  unfold rkC ltQ; rw [cmpI_neg, decide_eq_true_eq]
set_option maxRecDepth 100000 in
set_option maxHeartbeats 2000000 in
theorem rank_clos (P : Nat) (g : Option Addr) (c : Nat) (qs : List (Int × Int)) (i j : Nat) (w : World) (hP : w.heap[P]? = some (.cells #[.slice g qs.length c] 44 (0, 0))) (hq : QAt w g qs) (hok : ∀ q ∈ qs, okQ q) (hi : i < qs.length) (hj : j < qs.length) :
    Calls Try.prog 81 #[.int .i64 i, .int .i64 j, .pointer (some ⟨P, 0, none⟩)] w fun e w' => e = .returned (.int .i64 (rkC qs i j)) ∧ Below w.heap.size w w' := by
  obtain ⟨b, off, p, rfl, hb, hp, c0, c1⟩ := hq.at_ hi
  obtain ⟨b', off', q, e, hb', hq', d0, d1⟩ := hq.at_ hj
  obtain ⟨rfl, rfl⟩ : b = b' ∧ off = off' := by simpa using e
  have HC := Lib.hid (fun w => compare_any q p (hok q (mem_of_get hq')) (hok p (mem_of_get hp)) w)
  have e1 : rkC qs i j = cmpI (q.1 * p.2) (p.1 * q.2) := by unfold rkC; rw [List.getD_eq_getElem?_getD, List.getD_eq_getElem?_getD, hp, hq']; rfl
  rw [e1]
  generalize cmpI (q.1 * p.2) (p.1 * q.2) = R at HC ⊢
  have x0 := hp_cell hP (j := 0) (by rfl)
  have hl := hp_lt hP
  obtain ⟨p1, p2⟩ := p
  obtain ⟨q1, q2⟩ := q
  simp only at c0 c1 d0 d1 HC
  clear hok hp hq' hq e e1 hP
  go_enter Try.func81, Try.ntmps81
  go_wp2_with fail
  go_region_held3 (fun w' => w'.cell? ⟨P, 0, none⟩ = some (.slice (some ⟨b, off, none⟩) qs.length c) ∧ w'.cell? ⟨b, off + i * 2, none⟩ = some (.int .i64 p1) ∧ w'.cell? ⟨b, off + i * 2 + 1, none⟩ = some (.int .i64 p2) ∧ w'.cell? ⟨b, off + j * 2, none⟩ = some (.int .i64 q1) ∧ w'.cell? ⟨b, off + j * 2 + 1, none⟩ = some (.int .i64 q2)) (first | exact ⟨x0, c0, c1, d0, d1⟩ | exact ⟨(hBa.cell (p := ⟨P, _, none⟩) hl).trans x0, (hBa.cell (p := ⟨b, _, none⟩) hb).trans c0, (hBa.cell (p := ⟨b, _, none⟩) hb).trans c1, (hBa.cell (p := ⟨b, _, none⟩) hb).trans d0, (hBa.cell (p := ⟨b, _, none⟩) hb).trans d1⟩ | go_keep) ((go_at_call 78; refine (HC.out _).mono ?_; rintro e wa ⟨rfl, hBa⟩))
  all_goals go_wp2_with fail
  all_goals go_ret
  all_goals exact ⟨rfl, (Below.refl _ _).drew.trans hBa⟩

/-- The memory of the sort: the list of lines. -/
structure SrtI (D : Nat) (zs : List Int) (w W : World) : Prop where
  bd : W.heap[D]? = some (.cells (iv zs) 3 (0, 0))
  below : Below w.heap.size w W
theorem SrtI.low {D : Nat} {zs : List Int} {w W W' : World} (h : SrtI D zs w W) (hb : Below W.heap.size W W') : SrtI D zs w W' := ⟨hp_below h.bd hb (hp_lt h.bd), h.below.trans (hb.mono h.below.size)⟩
theorem SrtI.drew {D : Nat} {zs : List Int} {w W : World} (h : SrtI D zs w W) : SrtI D zs w W.drew := ⟨hp_drew h.bd, h.below.drew⟩
theorem SrtI.put {D : Nat} {zs : List Int} {w W : World} (h : SrtI D zs w W) (hD : w.heap.size ≤ D) (j : Nat) (v : Int) : SrtI D (zs.set j v) w (W.setCell ⟨D, j, none⟩ (.int .i64 v)) :=
  ⟨by rw [← iv_set]; exact hp_put h.bd j (.int .i64 v), h.below.setCell (p := ⟨D, j, none⟩) hD _⟩
theorem SrtI.cell {D : Nat} {zs : List Int} {w W : World} (h : SrtI D zs w W) {j : Nat} {v : Int} (hj : zs[j]? = some v) : W.cell? ⟨D, j, none⟩ = some (.int .i64 v) := hp_cell h.bd (by simp [iv, hj])

set_option maxRecDepth 100000 in
set_option maxHeartbeats 4000000 in
/-- The sort by insertion. -/
theorem insertion_any (P D : Nat) (g : Option Addr) (c n : Nat) (qs : List (Int × Int)) (w : World) (hP : w.heap[P]? = some (.cells #[.slice g qs.length c] 44 (0, 0))) (hq : QAt w g qs) (hok : ∀ q ∈ qs, okQ q) (hpos : PosQ qs) (hn : qs.length = n) (h8 : n ≤ 8) (hD : w.heap.size ≤ D) (W : World) (hI : SrtI D ((List.range n).map Int.ofNat) w W) :
    Calls Try.prog 126 #[.slice (some ⟨D, 0, none⟩) n n, .int .i64 0, .int .i64 n, .func (.func 81) #[] #[.pointer (some ⟨P, 0, none⟩)]] W fun e W' => e = .returned (.tuple #[]) ∧ ∃ ns, Ranked qs n ns ∧ SrtI D (ns.map Int.ofNat) w W' := by
  have HC := Lib.hid (fun (i j : Nat) (W : World) (hI : Below w.heap.size w W) (hi : i < n) (hj : j < n) => show Calls Try.prog 81 #[.int .i64 i, .int .i64 j, .pointer (some ⟨P, 0, none⟩)] W (fun e w' => e = .returned (.int .i64 (rkC qs i j)) ∧ Below W.heap.size W w') from rank_clos P g c qs i j W (hp_below hP hI (hp_lt hP)) (hq.below hI (Nat.le_refl _)) hok (by omega) (by omega))
  have HPOS := Lib.hid hpos
  have HI0 := Lib.hid hI
  clear hP hq hok hpos hI
  go_enter Try.func126, Try.ntmps126
  go_wp2_with fail
  go_loopw [8] (fun s8 wr => ∃ (k : Nat) (ns : List Nat), s8 = .int .i64 k ∧ 1 ≤ k ∧ (k ≤ n ∨ n = 0 ∧ k = 1) ∧ ns.Pairwise (bf qs) ∧ ns.length = min k n ∧ (∀ a, a ∈ ns ↔ a < min k n) ∧ SrtI D ((ns ++ List.range' k (n - k)).map Int.ofNat) w wr) (fun s8 _ => n - (intOf s8).toNat)
  case atStart =>
    refine ⟨1, List.range (min 1 n), rfl, Nat.le_refl _, by omega, ?_, by simp, fun a => by simp, ?_⟩
    · rcases Nat.eq_zero_or_pos n with h0 | h0
      · rw [h0]; simp
      · rw [show min 1 n = 1 by omega]; simp
    · have e : List.range (min 1 n) ++ List.range' 1 (n - 1) = List.range n := by
        rcases Nat.eq_zero_or_pos n with h0 | h0
        · rw [h0]; rfl
        · rw [show min 1 n = 1 by omega, List.range_eq_range', List.range_eq_range', List.range'_append_1, show 1 + (n - 1) = n by omega]
      rw [e]; exact HI0.out
  case round =>
    clear HI0
    obtain ⟨k, ns, rfl, hk1, hk2, hpw, hnl, hnm, hI⟩ := hrel
    by_cases hlt : k < n
    · rw [show min k n = k by omega] at hnl hnm
      have hrest : List.range' k (n - k) = k :: List.range' (k + 1) (n - (k + 1)) := by
        rw [show n - k = (n - (k + 1)) + 1 by omega, List.range'_succ]
      rw [hrest] at hI
      have HPW := Lib.hid hpw
      have HNM := Lib.hid hnm
      have HI := Lib.hid hI
      clear hpw hnm hI hrest
      go_wp2_with fail
      go_loopw [9] (fun s9 wr => ∃ (A B : List Nat), s9 = .int .i64 A.length ∧ A ++ B = ns ∧ (∀ b ∈ B, bf qs k b) ∧ SrtI D ((A ++ k :: (B ++ List.range' (k + 1) (n - (k + 1)))).map Int.ofNat) w wr) (fun s9 _ => (intOf s9).toNat)
      case atStart => exact ⟨ns, [], by rw [hnl], by simp, by simp, by simpa using HI.out⟩
      case round =>
        clear HI
        obtain ⟨A, B, rfl, hAB, hB, hI⟩ := hrel
        have HAB := Lib.hid hAB
        have HB := Lib.hid hB
        have HI := Lib.hid hI
        have hAl : A.length ≤ k := by have : A.length + B.length = ns.length := by rw [← hAB, List.length_append]
                                      omega
        clear hAB hB hI
        have hkn : ((A ++ k :: (B ++ List.range' (k + 1) (n - (k + 1)))).map Int.ofNat)[A.length]? = some (k : Int) := by simp
        rcases List.eq_nil_or_concat A with rfl | ⟨A', y, rfl⟩
        · have HK := Lib.hid (show (ns ++ List.range' k (n - k)) = ns ++ List.range' k (n - k) from rfl)
          simp only [List.length_nil] at hkn ⊢
          go_upto_if 34 with fail
          go_cut [34] (fun s34 wx => s34 = .bool false ∧ wx = wr.drew)
          case first =>
            refine wp_region_held_drew (S := (fun _ => True)) (by kernel_rfl) ?_ (fun hHeld => ?_)
            · exact trivial
            refine wpAnyH_take (i := 0) (oi := ?oiz00) (v := ?vz00) ?hiz00 (by kernel_rfl) (by kernel_rfl) (by kernel_rfl) ?hqz00 ?hyz00 hHeld ?restz00
            case hiz00 => exact rfl
            case hqz00 => exact fun _ _ _ h => h
            case hyz00 =>
              refine Or.inl ⟨by rfl, ?_⟩
              intro w hSw
              (try dsimp only at hSw)
              go_simp
              (try with_reducible rfl)
            try simp only [Act.put, List.getElem_toArray, List.getElem_cons_succ, List.getElem_cons_zero, List.setIfInBounds_toArray, List.set_cons_zero, List.set_cons_succ]
            refine wpAnyH_take (i := 1) (oi := ?oiz01) (v := ?vz01) ?hiz01 (by kernel_rfl) (by kernel_rfl) (by kernel_rfl) ?hqz01 ?hyz01 hHeld ?restz01
            case hiz01 => exact rfl
            case hqz01 => exact fun _ _ _ h => h
            case hyz01 =>
              refine Or.inl ⟨by rfl, ?_⟩
              intro w hSw
              (try dsimp only at hSw)
              go_simp
              (try with_reducible rfl)
            try simp only [Act.put, List.getElem_toArray, List.getElem_cons_succ, List.getElem_cons_zero, List.setIfInBounds_toArray, List.set_cons_zero, List.set_cons_succ]
            refine wpAnyH_take (i := 2) (oi := ?oiz02) (v := ?vz02) ?hiz02 (by kernel_rfl) (by kernel_rfl) (by kernel_rfl) ?hqz02 ?hyz02 hHeld ?restz02
            case hiz02 => exact rfl
            case hqz02 => exact fun _ _ _ h => h
            case hyz02 =>
              refine Or.inl ⟨by rfl, ?_⟩
              intro w hSw
              (try dsimp only at hSw)
              go_simp
              (try with_reducible rfl)
            try simp only [Act.put, List.getElem_toArray, List.getElem_cons_succ, List.getElem_cons_zero, List.setIfInBounds_toArray, List.set_cons_zero, List.set_cons_succ]
            refine wpAnyH_take (i := 3) (oi := ?oiz03) (v := ?vz03) ?hiz03 (by kernel_rfl) (by kernel_rfl) (by kernel_rfl) ?hqz03 ?hyz03 hHeld ?restz03
            case hiz03 => exact rfl
            case hqz03 => exact fun _ _ _ h => h
            case hyz03 =>
              refine Or.inl ⟨by rfl, ?_⟩
              intro w hSw
              (try dsimp only at hSw)
              go_simp
              (try with_reducible rfl)
            try simp only [Act.put, List.getElem_toArray, List.getElem_cons_succ, List.getElem_cons_zero, List.setIfInBounds_toArray, List.set_cons_zero, List.set_cons_succ]
            refine wpAnyH_take (i := 4) (oi := ?oiz04) (v := undef) ?hiz04 (by kernel_rfl) (by kernel_rfl) (by kernel_rfl) ?hqz04 ?hyz04 hHeld ?restz04
            case hiz04 => exact rfl
            case hqz04 => exact fun _ _ _ h => h
            case hyz04 => exact Or.inr ⟨by kernel_rfl, rfl⟩
            try simp only [Act.put, List.getElem_toArray, List.getElem_cons_succ, List.getElem_cons_zero, List.setIfInBounds_toArray, List.set_cons_zero, List.set_cons_succ]
            refine wpAnyH_take (i := 5) (oi := ?oiz05) (v := undef) ?hiz05 (by kernel_rfl) (by kernel_rfl) (by kernel_rfl) ?hqz05 ?hyz05 hHeld ?restz05
            case hiz05 => exact rfl
            case hqz05 => exact fun _ _ _ h => h
            case hyz05 => exact Or.inr ⟨by kernel_rfl, rfl⟩
            try simp only [Act.put, List.getElem_toArray, List.getElem_cons_succ, List.getElem_cons_zero, List.setIfInBounds_toArray, List.set_cons_zero, List.set_cons_succ]
            refine wpAnyH_take (i := 6) (oi := ?oiz06) (v := undef) ?hiz06 (by kernel_rfl) (by kernel_rfl) (by kernel_rfl) ?hqz06 ?hyz06 hHeld ?restz06
            case hiz06 => exact rfl
            case hqz06 => exact fun _ _ _ h => h
            case hyz06 => exact Or.inr ⟨by kernel_rfl, rfl⟩
            try simp only [Act.put, List.getElem_toArray, List.getElem_cons_succ, List.getElem_cons_zero, List.setIfInBounds_toArray, List.set_cons_zero, List.set_cons_succ]
            refine wpAnyH_take (i := 7) (oi := ?oiz07) (v := undef) ?hiz07 (by kernel_rfl) (by kernel_rfl) (by kernel_rfl) ?hqz07 ?hyz07 hHeld ?restz07
            case hiz07 => exact rfl
            case hqz07 => exact fun _ _ _ h => h
            case hyz07 => exact Or.inr ⟨by kernel_rfl, rfl⟩
            try simp only [Act.put, List.getElem_toArray, List.getElem_cons_succ, List.getElem_cons_zero, List.setIfInBounds_toArray, List.set_cons_zero, List.set_cons_succ]
            refine wpAnyH_take (i := 8) (oi := ?oiz08) (v := undef) ?hiz08 (by kernel_rfl) (by kernel_rfl) (by kernel_rfl) ?hqz08 ?hyz08 hHeld ?restz08
            case hiz08 => exact rfl
            case hqz08 => exact fun _ _ _ h => h
            case hyz08 => exact Or.inr ⟨by kernel_rfl, rfl⟩
            try simp only [Act.put, List.getElem_toArray, List.getElem_cons_succ, List.getElem_cons_zero, List.setIfInBounds_toArray, List.set_cons_zero, List.set_cons_succ]
            refine wpAnyH_take (i := 9) (oi := ?oiz09) (v := undef) ?hiz09 (by kernel_rfl) (by kernel_rfl) (by kernel_rfl) ?hqz09 ?hyz09 hHeld ?restz09
            case hiz09 => exact rfl
            case hqz09 => exact fun _ _ _ h => h
            case hyz09 => exact Or.inr ⟨by kernel_rfl, rfl⟩
            try simp only [Act.put, List.getElem_toArray, List.getElem_cons_succ, List.getElem_cons_zero, List.setIfInBounds_toArray, List.set_cons_zero, List.set_cons_succ]
            refine wpAnyH_take (i := 10) (oi := ?oiz10) (v := undef) ?hiz10 (by kernel_rfl) (by kernel_rfl) (by kernel_rfl) ?hqz10 ?hyz10 hHeld ?restz10
            case hiz10 => exact rfl
            case hqz10 => exact fun _ _ _ h => h
            case hyz10 => exact Or.inr ⟨by kernel_rfl, rfl⟩
            try simp only [Act.put, List.getElem_toArray, List.getElem_cons_succ, List.getElem_cons_zero, List.setIfInBounds_toArray, List.set_cons_zero, List.set_cons_succ]
            refine wpAnyH_take (i := 11) (oi := ?oiz11) (v := undef) ?hiz11 (by kernel_rfl) (by kernel_rfl) (by kernel_rfl) ?hqz11 ?hyz11 hHeld ?restz11
            case hiz11 => exact rfl
            case hqz11 => exact fun _ _ _ h => h
            case hyz11 => exact Or.inr ⟨by kernel_rfl, rfl⟩
            try simp only [Act.put, List.getElem_toArray, List.getElem_cons_succ, List.getElem_cons_zero, List.setIfInBounds_toArray, List.set_cons_zero, List.set_cons_succ]
            refine wpAnyH_take (i := 12) (oi := ?oiz12) (v := undef) ?hiz12 (by kernel_rfl) (by kernel_rfl) (by kernel_rfl) ?hqz12 ?hyz12 hHeld ?restz12
            case hiz12 => exact rfl
            case hqz12 => exact fun _ _ _ h => h
            case hyz12 => exact Or.inr ⟨by kernel_rfl, rfl⟩
            try simp only [Act.put, List.getElem_toArray, List.getElem_cons_succ, List.getElem_cons_zero, List.setIfInBounds_toArray, List.set_cons_zero, List.set_cons_succ]
            refine wpAnyH_take (i := 13) (oi := ?oiz13) (v := undef) ?hiz13 (by kernel_rfl) (by kernel_rfl) (by kernel_rfl) ?hqz13 ?hyz13 hHeld ?restz13
            case hiz13 => exact rfl
            case hqz13 => exact fun _ _ _ h => h
            case hyz13 => exact Or.inr ⟨by kernel_rfl, rfl⟩
            try simp only [Act.put, List.getElem_toArray, List.getElem_cons_succ, List.getElem_cons_zero, List.setIfInBounds_toArray, List.set_cons_zero, List.set_cons_succ]
            refine wpAnyH_take (i := 14) (oi := ?oiz14) (v := undef) ?hiz14 (by kernel_rfl) (by kernel_rfl) (by kernel_rfl) ?hqz14 ?hyz14 hHeld ?restz14
            case hiz14 => exact rfl
            case hqz14 => exact fun _ _ _ h => h
            case hyz14 => exact Or.inr ⟨by kernel_rfl, rfl⟩
            try simp only [Act.put, List.getElem_toArray, List.getElem_cons_succ, List.getElem_cons_zero, List.setIfInBounds_toArray, List.set_cons_zero, List.set_cons_succ]
            refine wpAnyH_take (i := 15) (oi := ?oiz15) (v := undef) ?hiz15 (by kernel_rfl) (by kernel_rfl) (by kernel_rfl) ?hqz15 ?hyz15 hHeld ?restz15
            case hiz15 => exact rfl
            case hqz15 => exact fun _ _ _ h => h
            case hyz15 => exact Or.inr ⟨by kernel_rfl, rfl⟩
            try simp only [Act.put, List.getElem_toArray, List.getElem_cons_succ, List.getElem_cons_zero, List.setIfInBounds_toArray, List.set_cons_zero, List.set_cons_succ]
            refine wpAnyH_take (i := 16) (oi := ?oiz16) (v := ?vz16) ?hiz16 (by kernel_rfl) (by kernel_rfl) (by kernel_rfl) ?hqz16 ?hyz16 hHeld ?restz16
            case hiz16 => exact rfl
            case hqz16 => exact fun _ _ _ h => h
            case hyz16 =>
              refine Or.inl ⟨by rfl, ?_⟩
              intro w hSw
              (try dsimp only at hSw)
              go_simp
              (try with_reducible rfl)
            try simp only [Act.put, List.getElem_toArray, List.getElem_cons_succ, List.getElem_cons_zero, List.setIfInBounds_toArray, List.set_cons_zero, List.set_cons_succ]
            refine wpAnyH_done (by kernel_rfl) ?_ _
            go_wp2_with fail
            go_meet
            exact ⟨rfl, rfl⟩
          case rest =>
            obtain ⟨rfl, rfl⟩ := hcut
            have hI2 := HI.out.drew
            go_wp2_with fail
            go_roundw
            case rel =>
              simp only [List.nil_append] at hI2
              obtain rfl : B = ns := HAB.out
              refine ⟨k + 1, k :: B, by go_num, by omega, by omega, List.pairwise_cons.2 ⟨HB.out, HPW.out⟩, by simp; omega, fun a => ?_, ?_⟩
              · rw [List.mem_cons, HNM.out, show min (k + 1) n = k + 1 by omega]; omega
              · simpa using hI2
            case measure => first | (simp [intOf]; done) | (simp [intOf]; omega)
        · rw [List.concat_eq_append] at *
          obtain ⟨m, hm⟩ : ∃ m, A'.length = m := ⟨_, rfl⟩
          have hl1 : (A' ++ [y]).length = m + 1 := by simp [hm]
          rw [hl1] at hkn hAl ⊢
          have hym : (((A' ++ [y]) ++ k :: (B ++ List.range' (k + 1) (n - (k + 1)))).map Int.ofNat)[m]? = some (y : Int) := by
            subst hm; simp
          have hyk : y < k := (HNM.out y).1 (by rw [← HAB.out]; simp)
          have HCL := Lib.hid (fun W hI => HC.out k y W hI (by omega) (by omega))
          have hmn : m + 1 < n := by omega
          have hmn2 : m < n := by omega
          have hwm : IntKind.i64.wrap (m : Int) = (m : Int) := by rw [IntKind.wrap_i64]; omega
          have hiy : (0 : Int) ≤ (m : Int) ∧ (m : Int) < (n : Int) := by omega
          have hix : (0 : Int) ≤ (m : Int) + 1 ∧ (m : Int) + 1 < (n : Int) := by omega
          have HGK := Lib.hid hkn
          have HGY := Lib.hid hym
          have c0 := HI.out.drew.cell HGK.out
          have c1 := HI.out.drew.cell HGY.out
          clear hkn hym
          go_upto_if 34 with fail
          obtain ⟨bb, hbb⟩ : ∃ bb, decide (rkC qs k y < 0) = bb := ⟨_, rfl⟩
          have HBB := Lib.hid hbb
          clear hbb
          go_cut [34] (fun s34 wx => s34 = .bool bb ∧ Below wr.heap.size wr wx)
          case first =>
            generalize rkC qs k y = R at HCL HBB
            refine wp_region_held_drew (S := (fun w' => w'.cell? ⟨D, m + 1, none⟩ = some (.int .i64 (k : Int)) ∧ w'.cell? ⟨D, m, none⟩ = some (.int .i64 (y : Int)))) (by kernel_rfl) ?_ (fun hHeld => ?_)
            · exact ⟨c0, c1⟩
            refine wpAnyH_take (i := 0) (oi := ?oi00) (v := ?v00) ?hi00 (by kernel_rfl) (by kernel_rfl) (by kernel_rfl) ?hq00 ?hy00 hHeld ?rest00
            case hi00 => exact rfl
            case hq00 => exact fun _ _ _ h => h
            case hy00 =>
              refine Or.inl ⟨by rfl, ?_⟩
              intro w hSw
              (try dsimp only at hSw)
              go_simp
              (try with_reducible rfl)
            try simp only [Act.put, List.getElem_toArray, List.getElem_cons_succ, List.getElem_cons_zero, List.setIfInBounds_toArray, List.set_cons_zero, List.set_cons_succ]
            refine wpAnyH_take (i := 1) (oi := ?oi01) (v := ?v01) ?hi01 (by kernel_rfl) (by kernel_rfl) (by kernel_rfl) ?hq01 ?hy01 hHeld ?rest01
            case hi01 => exact rfl
            case hq01 => exact fun _ _ _ h => h
            case hy01 =>
              refine Or.inl ⟨by rfl, ?_⟩
              intro w hSw
              (try dsimp only at hSw)
              go_simp
              (try with_reducible rfl)
            try simp only [Act.put, List.getElem_toArray, List.getElem_cons_succ, List.getElem_cons_zero, List.setIfInBounds_toArray, List.set_cons_zero, List.set_cons_succ]
            refine wpAnyH_take (i := 2) (oi := ?oi02) (v := ?v02) ?hi02 (by kernel_rfl) (by kernel_rfl) (by kernel_rfl) ?hq02 ?hy02 hHeld ?rest02
            case hi02 => exact rfl
            case hq02 => exact fun _ _ _ h => h
            case hy02 =>
              refine Or.inl ⟨by rfl, ?_⟩
              intro w hSw
              (try dsimp only at hSw)
              go_simp
              (try with_reducible rfl)
            try simp only [Act.put, List.getElem_toArray, List.getElem_cons_succ, List.getElem_cons_zero, List.setIfInBounds_toArray, List.set_cons_zero, List.set_cons_succ]
            refine wpAnyH_take (i := 3) (oi := ?oi03) (v := ?v03) ?hi03 (by kernel_rfl) (by kernel_rfl) (by kernel_rfl) ?hq03 ?hy03 hHeld ?rest03
            case hi03 => exact rfl
            case hq03 => exact fun _ _ _ h => h
            case hy03 =>
              refine Or.inl ⟨by rfl, ?_⟩
              intro w hSw
              (try dsimp only at hSw)
              go_simp
              (try with_reducible rfl)
            try simp only [Act.put, List.getElem_toArray, List.getElem_cons_succ, List.getElem_cons_zero, List.setIfInBounds_toArray, List.set_cons_zero, List.set_cons_succ]
            refine wpAnyH_take (i := 4) (oi := ?oi04) (v := ?v04) ?hi04 (by kernel_rfl) (by kernel_rfl) (by kernel_rfl) ?hq04 ?hy04 hHeld ?rest04
            case hi04 => exact rfl
            case hq04 => exact fun _ _ _ h => h
            case hy04 =>
              refine Or.inl ⟨by rfl, ?_⟩
              intro w hSw
              (try dsimp only at hSw)
              go_simp
              (try with_reducible rfl)
            try simp only [Act.put, List.getElem_toArray, List.getElem_cons_succ, List.getElem_cons_zero, List.setIfInBounds_toArray, List.set_cons_zero, List.set_cons_succ]
            refine wpAnyH_take (i := 5) (oi := ?oi05) (v := ?v05) ?hi05 (by kernel_rfl) (by kernel_rfl) (by kernel_rfl) ?hq05 ?hy05 hHeld ?rest05
            case hi05 => exact rfl
            case hq05 => exact fun _ _ _ h => h
            case hy05 =>
              refine Or.inl ⟨by rfl, ?_⟩
              intro w hSw
              (try dsimp only at hSw)
              go_simp
              (try with_reducible rfl)
            try simp only [Act.put, List.getElem_toArray, List.getElem_cons_succ, List.getElem_cons_zero, List.setIfInBounds_toArray, List.set_cons_zero, List.set_cons_succ]
            refine wpAnyH_take (i := 6) (oi := ?oi06) (v := ?v06) ?hi06 (by kernel_rfl) (by kernel_rfl) (by kernel_rfl) ?hq06 ?hy06 hHeld ?rest06
            case hi06 => exact rfl
            case hq06 => exact fun _ _ _ h => h
            case hy06 =>
              refine Or.inl ⟨by rfl, ?_⟩
              intro w hSw
              (try dsimp only at hSw)
              go_simp
              (try with_reducible rfl)
            try simp only [Act.put, List.getElem_toArray, List.getElem_cons_succ, List.getElem_cons_zero, List.setIfInBounds_toArray, List.set_cons_zero, List.set_cons_succ]
            refine wpAnyH_take (i := 7) (oi := ?oi07) (v := ?v07) ?hi07 (by kernel_rfl) (by kernel_rfl) (by kernel_rfl) ?hq07 ?hy07 hHeld ?rest07
            case hi07 => exact rfl
            case hq07 => exact fun _ _ _ h => h
            case hy07 =>
              refine Or.inl ⟨by rfl, ?_⟩
              intro w hSw
              (try dsimp only at hSw)
              go_simp
              (try with_reducible rfl)
            try simp only [Act.put, List.getElem_toArray, List.getElem_cons_succ, List.getElem_cons_zero, List.setIfInBounds_toArray, List.set_cons_zero, List.set_cons_succ]
            refine wpAnyH_take (i := 8) (oi := ?oi08) (v := ?v08) ?hi08 (by kernel_rfl) (by kernel_rfl) (by kernel_rfl) ?hq08 ?hy08 hHeld ?rest08
            case hi08 => exact rfl
            case hq08 => exact fun _ _ _ h => h
            case hy08 =>
              refine Or.inl ⟨by rfl, ?_⟩
              intro w hSw
              (try dsimp only at hSw)
              go_simp
              (try with_reducible rfl)
            try simp only [Act.put, List.getElem_toArray, List.getElem_cons_succ, List.getElem_cons_zero, List.setIfInBounds_toArray, List.set_cons_zero, List.set_cons_succ]
            refine wpAnyH_take (i := 9) (oi := ?oi09) (v := ?v09) ?hi09 (by kernel_rfl) (by kernel_rfl) (by kernel_rfl) ?hq09 ?hy09 hHeld ?rest09
            case hi09 => exact rfl
            case hq09 => exact fun _ _ _ h => h
            case hy09 =>
              refine Or.inl ⟨by rfl, ?_⟩
              intro w hSw
              (try dsimp only at hSw)
              go_simp
              (try with_reducible rfl)
            try simp only [Act.put, List.getElem_toArray, List.getElem_cons_succ, List.getElem_cons_zero, List.setIfInBounds_toArray, List.set_cons_zero, List.set_cons_succ]
            refine wpAnyH_take (i := 10) (oi := ?oi10) (v := ?v10) ?hi10 (by kernel_rfl) (by kernel_rfl) (by kernel_rfl) ?hq10 ?hy10 hHeld ?rest10
            case hi10 => exact rfl
            case hq10 => exact fun _ _ _ h => h
            case hy10 =>
              refine Or.inl ⟨by rfl, ?_⟩
              intro w hSw
              (try dsimp only at hSw)
              go_simp
              (try with_reducible rfl)
            try simp only [Act.put, List.getElem_toArray, List.getElem_cons_succ, List.getElem_cons_zero, List.setIfInBounds_toArray, List.set_cons_zero, List.set_cons_succ]
            refine wpAnyH_take (i := 11) (oi := ?oi11) (v := ?v11) ?hi11 (by kernel_rfl) (by kernel_rfl) (by kernel_rfl) ?hq11 ?hy11 hHeld ?rest11
            case hi11 => exact rfl
            case hq11 => exact fun _ _ _ h => h
            case hy11 =>
              refine Or.inl ⟨by rfl, ?_⟩
              intro w hSw
              (try dsimp only at hSw)
              go_simp
              (try with_reducible rfl)
            try simp only [Act.put, List.getElem_toArray, List.getElem_cons_succ, List.getElem_cons_zero, List.setIfInBounds_toArray, List.set_cons_zero, List.set_cons_succ]
            refine wpAnyH_take (i := 12) (oi := ?oi12) (v := ?v12) ?hi12 (by kernel_rfl) (by kernel_rfl) (by kernel_rfl) ?hq12 ?hy12 hHeld ?rest12
            case hi12 => exact rfl
            case hq12 => exact fun _ _ _ h => h
            case hy12 =>
              refine Or.inl ⟨by rfl, ?_⟩
              intro w hSw
              (try dsimp only at hSw)
              go_simp
              (try with_reducible rfl)
            try simp only [Act.put, List.getElem_toArray, List.getElem_cons_succ, List.getElem_cons_zero, List.setIfInBounds_toArray, List.set_cons_zero, List.set_cons_succ]
            refine wpAnyH_take (i := 13) (oi := ?oi13) (v := ?v13) ?hi13 (by kernel_rfl) (by kernel_rfl) (by kernel_rfl) ?hq13 ?hy13 hHeld ?rest13
            case hi13 => exact rfl
            case hq13 => exact fun _ _ _ h => h
            case hy13 =>
              refine Or.inl ⟨by rfl, ?_⟩
              intro w hSw
              (try dsimp only at hSw)
              go_simp
              (try with_reducible rfl)
            try simp only [Act.put, List.getElem_toArray, List.getElem_cons_succ, List.getElem_cons_zero, List.setIfInBounds_toArray, List.set_cons_zero, List.set_cons_succ]
            refine wpAnyH_ready (rs := [14]) (by kernel_rfl) (by simp) ?_
            refine AllReadyH.cons (o := ?oo14) ?ho14 ?hk14 AllReadyH.nil
            case ho14 => exact rfl
            intro K hK
            go_simp
            refine (HCL.out _ HI.out.drew.below).mono ?_; rintro e wa ⟨rfl, hBa⟩; have HI2 := Lib.hid (HI.out.drew.low hBa); have hBB := (Below.refl _ _).drew.trans hBa
            refine hK.out _ _ ?_ (fun hHeld => ?_)
            · exact ⟨HI2.out.cell HGK.out, HI2.out.cell HGY.out⟩
            clear hK K
            try simp only [Act.put, List.getElem_toArray, List.getElem_cons_succ, List.getElem_cons_zero, List.setIfInBounds_toArray, List.set_cons_zero, List.set_cons_succ]
            refine wpAnyH_take (i := 15) (oi := ?oi15) (v := ?v15) ?hi15 (by kernel_rfl) (by kernel_rfl) (by kernel_rfl) ?hq15 ?hy15 hHeld ?rest15
            case hi15 => exact rfl
            case hq15 => exact fun _ _ _ h => h
            case hy15 =>
              refine Or.inl ⟨by rfl, ?_⟩
              intro w hSw
              (try dsimp only at hSw)
              go_simp
              (try with_reducible rfl)
            try simp only [Act.put, List.getElem_toArray, List.getElem_cons_succ, List.getElem_cons_zero, List.setIfInBounds_toArray, List.set_cons_zero, List.set_cons_succ]
            refine wpAnyH_take (i := 16) (oi := ?oi16) (v := ?v16) ?hi16 (by kernel_rfl) (by kernel_rfl) (by kernel_rfl) ?hq16 ?hy16 hHeld ?rest16
            case hi16 => exact rfl
            case hq16 => exact fun _ _ _ h => h
            case hy16 =>
              refine Or.inl ⟨by rfl, ?_⟩
              intro w hSw
              (try dsimp only at hSw)
              go_simp
              (try with_reducible rfl)
            try simp only [Act.put, List.getElem_toArray, List.getElem_cons_succ, List.getElem_cons_zero, List.setIfInBounds_toArray, List.set_cons_zero, List.set_cons_succ]
            refine wpAnyH_done (by kernel_rfl) ?_ _
            go_wp2_with fail
            go_meet
            exact ⟨by rw [← HBB.out], hBB⟩
          case rest =>
            obtain ⟨rfl, hB2⟩ := hcut
            have HI2 := Lib.hid (HI.out.low hB2)
            clear HI c0 c1 hB2
            cases bb
            rotate_left
            · have HY := Lib.hid (show bf qs k y from .inl (rkC_neg.1 (by simpa using HBB.out)))
              have c0 := HI2.out.cell HGK.out
              have c1 := HI2.out.cell HGY.out
              have f0 := hp_free HI2.out.bd (m + 1)
              have f1 := hp_free HI2.out.bd m
              go_wp2_with fail
              go_upto_region 6 with fail
              go_region
              go_wp2_with fail
              go_roundw
              case rel =>
                refine ⟨A', y :: B, by simp [hm], by simpa using HAB.out, fun b hb => ?_, ?_⟩
                · rcases List.mem_cons.1 hb with rfl | hb
                  · exact HY.out
                  · exact HB.out b hb
                · have h := ((HI2.out.put hD (m + 1) (y : Int)).put hD m (k : Int)).drew
                  have e : ((((A' ++ [y]) ++ k :: (B ++ List.range' (k + 1) (n - (k + 1)))).map Int.ofNat).set (m + 1) (y : Int)).set m (k : Int) = (A' ++ k :: ((y :: B) ++ List.range' (k + 1) (n - (k + 1)))).map Int.ofNat := by
                    subst hm
                    simp [List.set_append]
                  rw [e] at h
                  exact h
              case measure => first | (simp [intOf]; done) | (simp [intOf]; omega)
            · have hneg : ¬ rkC qs k y < 0 := by simpa using HBB.out
              have HY := Lib.hid (show bf qs y k from .inr ⟨by
                have h := fun h => hneg (rkC_neg.2 h)
                simpa using h, hyk⟩)
              clear hneg
              go_wp2_with fail
              go_roundw
              case rel =>
                refine ⟨k + 1, (A' ++ [y]) ++ k :: B, by go_num, by omega, by omega, ins_step HPOS.out (by rw [HAB.out]; exact HPW.out) HB.out (.inr ⟨A', y, rfl, HY.out⟩), ?_, fun a => ?_, ?_⟩
                · have h := congrArg List.length HAB.out
                  simp at h ⊢; omega
                · rw [show min (k + 1) n = k + 1 by omega, List.mem_append, List.mem_cons]
                  have h := HNM.out a
                  rw [← HAB.out, List.mem_append] at h
                  constructor
                  · rintro (h1 | rfl | h1)
                    · have := h.1 (.inl h1); omega
                    · omega
                    · have := h.1 (.inr h1); omega
                  · intro h1
                    by_cases e : a = k
                    · exact .inr (.inl e)
                    · rcases h.2 (by omega) with h2 | h2
                      · exact .inl h2
                      · exact .inr (.inr h2)
                · have h := HI2.out
                  simpa using h
              case measure => first | (simp [intOf]; done) | (simp [intOf]; omega)
    · have hkn : min k n = n := by omega
      rw [hkn] at hnl hnm
      have HR := Lib.hid (show Ranked qs n ns from ⟨hpw, hnm⟩)
      rw [show n - k = 0 by omega] at hI
      have HI := Lib.hid (show SrtI D (ns.map Int.ofNat) w wr by simpa using hI)
      clear hpw hnm hI
      go_wp2_with fail
      go_end0
      exact ⟨rfl, ns, HR.out, HI.out⟩

set_option maxRecDepth 100000 in
set_option maxHeartbeats 2000000 in
/-- The stable sort of a short list. -/
theorem stable_any (P D : Nat) (g : Option Addr) (c n : Nat) (qs : List (Int × Int)) (w : World) (hP : w.heap[P]? = some (.cells #[.slice g qs.length c] 44 (0, 0))) (hq : QAt w g qs) (hok : ∀ q ∈ qs, okQ q) (hpos : PosQ qs) (hn : qs.length = n) (h8 : n ≤ 8) (hD : w.heap.size ≤ D) (W : World) (hI : SrtI D ((List.range n).map Int.ofNat) w W) :
    Calls Try.prog 111 #[.slice (some ⟨D, 0, none⟩) n n, .int .i64 n, .func (.func 81) #[] #[.pointer (some ⟨P, 0, none⟩)]] W fun e W' => e = .returned (.tuple #[]) ∧ ∃ ns, Ranked qs n ns ∧ SrtI D (ns.map Int.ofNat) w W' := by
  have HC := Lib.hid (insertion_any P D g c n qs w hP hq hok hpos hn h8 hD W hI)
  have h20 : decide ((20 : Int) ≤ (n : Int)) = false := by simp; omega
  have h21 : decide ((20 : Int) < (n : Int)) = false := by simp; omega
  clear hP hq hok hpos hn hD hI
  go_enter Try.func111, Try.ntmps111
  go_wp2_with fail
  go_loopw [7, 8] (fun s7 s8 wr => s7 = .int .i64 0 ∧ s8 = .int .i64 20 ∧ wr = W) (fun _ _ _ => 0)
  case atStart => exact ⟨rfl, rfl, rfl⟩
  case round =>
    obtain ⟨rfl, rfl, rfl⟩ := hrel
    go_wp2_with fail
    refine HC.out.mono ?_
    rintro e w1 ⟨rfl, ns, hR, hS⟩
    have HR := Lib.hid hR
    have HS := Lib.hid hS
    clear hR hS HC
    go_wp2_with fail
    go_loopw [6] (fun s6 wr => s6 = .int .i64 20 ∧ wr = w1) (fun _ _ => 0)
    case atStart => exact ⟨rfl, rfl⟩
    case round =>
      obtain ⟨rfl, rfl⟩ := hrel
      go_wp2_with fail
      go_end0
      exact ⟨rfl, ns, HR.out, HS.out⟩
theorem sortStable_any (P D : Nat) (g : Option Addr) (c n : Nat) (qs : List (Int × Int)) (w : World) (hP : w.heap[P]? = some (.cells #[.slice g qs.length c] 44 (0, 0))) (hq : QAt w g qs) (hok : ∀ q ∈ qs, okQ q) (hpos : PosQ qs) (hn : qs.length = n) (h8 : n ≤ 8) (hD : w.heap.size ≤ D) (W : World) (hI : SrtI D ((List.range n).map Int.ofNat) w W) :
    Calls Try.prog 80 #[.slice (some ⟨D, 0, none⟩) n n, .func (.func 81) #[] #[.pointer (some ⟨P, 0, none⟩)]] W fun e W' => e = .returned (.tuple #[]) ∧ ∃ ns, Ranked qs n ns ∧ SrtI D (ns.map Int.ofNat) w W' := by
  have HC := Lib.hid (stable_any P D g c n qs w hP hq hok hpos hn h8 hD W hI)
  clear hP hq hok hpos hn hD hI
  go_enter Try.func80, Try.ntmps80
  go_wp2_with fail
  refine HC.out.mono ?_
  rintro e w1 ⟨rfl, ns, hR, hS⟩
  go_wp2_with fail
  go_end0
  exact ⟨rfl, ns, hR, hS⟩

end Go.Proofs.Ytndmjenfgggfbaa
