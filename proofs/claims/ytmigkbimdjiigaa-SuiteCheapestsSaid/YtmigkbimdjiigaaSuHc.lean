/- The search over all sets of kit, for one function value: contract. -/
import Derived.Test.YtmigkbimdjiigaaSuI
set_option linter.unusedVariables false
set_option linter.unusedSimpArgs false
namespace Go.Proofs.Ytmigkbimdjiigaa
open Go.RowKit Tinker

set_option maxRecDepth 100000 in
set_option maxHeartbeats 4000000 in
theorem kext_C (P0 : Nat → Bool) (a : Option Addr) (sl cap : Nat) (N : Nat) (hN : N ≤ 10) (w : World)
    (hP : ∀ (m : Nat) (W : World), m < 1024 → Below w.heap.size w W → Calls Try.prog 68 #[.slice a sl cap, .int .u64 m] W fun e W' => e = .returned (.bool (P0 m)) ∧ Below W.heap.size W W') :
    ∀ (k m n : Nat) (v : Value) (ms : List Nat) (W : World), k + n = N → m < 1024 → ms.length + (tlK N k m).length + 1 ≤ 2000 → FdK N (.func (.func 68) #[.slice a sl cap] #[]) w v ms W →
      Calls Try.prog 111 #[.int .u64 m, .int .i64 n, .pointer (some ⟨w.heap.size + 1, 0, none⟩), .pointer (some ⟨w.heap.size + 1 + 1, 0, none⟩), .pointer (some ⟨w.heap.size, 0, none⟩), .pointer (some ⟨w.heap.size + 1 + 1 + 1, 0, none⟩)] W
        fun e W' => e = .returned (.tuple #[]) ∧ ∃ v', FdK N (.func (.func 68) #[.slice a sl cap] #[]) w v' (ms ++ (m :: tlK N k m).filter P0) W' := by
  intro k
  induction k using Nat.strongRecOn with
  | _ k ih =>
    intro m n v ms W hkn hm hlen hI
    obtain ⟨i0, hi, hz0, hz1, hz2⟩ := info_parts info_kmask
    have HC := Lib.hid (hP m W hm hI.below)
    have HP := Lib.hid hP
    have IH := Lib.hid ih
    have HI := Lib.hid hI
    have x0 := hp_cell hI.bf (j := 0) (by rfl)
    clear hP ih hI
    cases hb : P0 m
    · have HE := Lib.hid (show (m :: tlK N k m).filter P0 = (tlK N k m).filter P0 by rw [List.filter_cons_of_neg (by simp [hb])])
      rw [hb] at HC
      rw [HE.out]
      clear hb HE
      go_enter Try.func111, Try.ntmps111
      go_wp2_with fail
      refine HC.out.mono ?_
      rintro e w1 ⟨rfl, hB⟩
      have HI1 := Lib.hid (HI.out.low hB)
      clear hB HI x0 HC
      go_wp2_with fail
      go_loopw [8] (fun s8 wr => ∃ (n' : Nat) (v' : Value) (ms' : List Nat), s8 = .int .i64 n' ∧ n ≤ n' ∧ n' ≤ N ∧ FdK N (.func (.func 68) #[.slice a sl cap] #[]) w v' ms' wr ∧ ms' ++ (tlK N (N - n') m).filter P0 = ms ++ (tlK N k m).filter P0 ∧ ms'.length + (tlK N (N - n') m).length ≤ 2000) (fun s8 _ => N - (intOf s8).toNat)
      case atStart => exact ⟨n, _, _, rfl, Nat.le_refl _, by omega, HI1.out, by rw [show N - n = k by omega], by rw [show N - n = k by omega]; omega⟩
      case round =>
        obtain ⟨n', v', ms', rfl, hn1, hn2, hI, heq, hle⟩ := hrel
        have HQ := Lib.hid heq
        have HIr := Lib.hid hI
        have HLE := Lib.hid hle
        clear HI1 heq hI hle
        have xn := hp_cell HIr.out.bn (j := 0) (by rfl)
        by_cases hlt : n' < N
        · have HW := Lib.hid (fun w => kWith_any m n' hm (by omega) w)
          have HT := Lib.hid (tlK_step hlt m)
          have hle2 := HLE.out
          rw [HT.out] at hle2
          simp only [List.length_append, List.length_cons] at hle2
          have hx := fun W h => IH.out (N - (n' + 1)) (by omega) (m ||| 2 ^ n') (n' + 1) v' ms' W (by omega) (or_ltK hm (powK (by omega)).1) (by omega) h
          have ec : (((n' + 1 : Nat)) : Int) = (n' : Int) + 1 := by omega
          simp only [ec] at hx
          have HX := Lib.hid hx
          clear hx ec
          have xe := hp_cell HIr.out.be (j := 0) (by rfl)
          go_wp2_with fail
          refine wp_region_held_drew (S := (fun w' => w'.cell? ⟨w.heap.size + 1 + 1 + 1, 0, none⟩ = some (.func (.func 111) #[] #[.pointer (some ⟨w.heap.size + 1, 0, none⟩), .pointer (some ⟨w.heap.size + 1 + 1, 0, none⟩), .pointer (some ⟨w.heap.size, 0, none⟩), .pointer (some ⟨w.heap.size + 1 + 1 + 1, 0, none⟩)]))) (by kernel_rfl) ?_ (fun hHeld => ?_)
          · exact xe
          refine wpAnyH_take (i := 0) (oi := ?oiz0) (v := ?vz0) ?hiz0 (by kernel_rfl) (by kernel_rfl) (by kernel_rfl) ?hqz0 ?hyz0 hHeld ?restz0
          case hiz0 => exact rfl
          case hqz0 => exact fun _ _ _ h => h
          case hyz0 =>
            refine Or.inl ⟨by rfl, ?_⟩
            intro w hSw
            (try dsimp only at hSw)
            go_simp
            (try with_reducible rfl)
          try simp only [Act.put, List.getElem_toArray, List.getElem_cons_succ, List.getElem_cons_zero, List.setIfInBounds_toArray, List.set_cons_zero, List.set_cons_succ]
          refine wpAnyH_take (i := 1) (oi := ?oiz1) (v := ?vz1) ?hiz1 (by kernel_rfl) (by kernel_rfl) (by kernel_rfl) ?hqz1 ?hyz1 hHeld ?restz1
          case hiz1 => exact rfl
          case hqz1 => exact fun _ _ _ h => h
          case hyz1 =>
            refine Or.inl ⟨by rfl, ?_⟩
            intro w hSw
            (try dsimp only at hSw)
            go_simp
            (try with_reducible rfl)
          try simp only [Act.put, List.getElem_toArray, List.getElem_cons_succ, List.getElem_cons_zero, List.setIfInBounds_toArray, List.set_cons_zero, List.set_cons_succ]
          refine wpAnyH_take (i := 2) (oi := ?oiz2) (v := ?vz2) ?hiz2 (by kernel_rfl) (by kernel_rfl) (by kernel_rfl) ?hqz2 ?hyz2 hHeld ?restz2
          case hiz2 => exact rfl
          case hqz2 => exact fun _ _ _ h => h
          case hyz2 =>
            refine Or.inl ⟨by rfl, ?_⟩
            intro w hSw
            (try dsimp only at hSw)
            go_simp
            (try with_reducible rfl)
          try simp only [Act.put, List.getElem_toArray, List.getElem_cons_succ, List.getElem_cons_zero, List.setIfInBounds_toArray, List.set_cons_zero, List.set_cons_succ]
          refine wpAnyH_take (i := 4) (oi := ?oiz4) (v := ?vz4) ?hiz4 (by kernel_rfl) (by kernel_rfl) (by kernel_rfl) ?hqz4 ?hyz4 hHeld ?restz4
          case hiz4 => exact rfl
          case hqz4 => exact fun _ _ _ h => h
          case hyz4 =>
            refine Or.inl ⟨by rfl, ?_⟩
            intro w hSw
            (try dsimp only at hSw)
            go_simp
            (try with_reducible rfl)
          try simp only [Act.put, List.getElem_toArray, List.getElem_cons_succ, List.getElem_cons_zero, List.setIfInBounds_toArray, List.set_cons_zero, List.set_cons_succ]
          refine wpAnyH_take (i := 5) (oi := ?oiz5) (v := ?vz5) ?hiz5 (by kernel_rfl) (by kernel_rfl) (by kernel_rfl) ?hqz5 ?hyz5 hHeld ?restz5
          case hiz5 => exact rfl
          case hqz5 => exact fun _ _ _ h => h
          case hyz5 =>
            refine Or.inl ⟨by rfl, ?_⟩
            intro w hSw
            (try dsimp only at hSw)
            go_simp
            (try with_reducible rfl)
          try simp only [Act.put, List.getElem_toArray, List.getElem_cons_succ, List.getElem_cons_zero, List.setIfInBounds_toArray, List.set_cons_zero, List.set_cons_succ]
          refine wpAnyH_ready (rs := [3]) (by kernel_rfl) (by simp) ?_
          refine AllReadyH.cons (o := ?ooz3) ?hoz3 ?hkz3 AllReadyH.nil
          case hoz3 => exact rfl
          intro K hK
          go_simp
          refine (HW.out _).mono ?_
          rintro e wa ⟨rfl, rfl⟩
          refine hK.out _ _ ?_ (fun hHeld => ?_)
          · exact xe
          clear hK K
          try simp only [Act.put, List.getElem_toArray, List.getElem_cons_succ, List.getElem_cons_zero, List.setIfInBounds_toArray, List.set_cons_zero, List.set_cons_succ]
          refine wpAnyH_ready (rs := [6]) (by kernel_rfl) (by simp) ?_
          refine AllReadyH.cons (o := ?ooz6) ?hoz6 ?hkz6 AllReadyH.nil
          case hoz6 => exact rfl
          intro K hK
          go_simp
          rw [IntWalk.i64_in ((n' : Int) + 1) (by omega)]
          refine (HX.out _ HIr.out.drew).mono ?_
          rintro e wa ⟨rfl, vn, hIn⟩
          refine hK.out _ _ ?_ (fun hHeld => ?_)
          · exact hp_cell hIn.be (j := 0) (by rfl)
          clear hK K
          try simp only [Act.put, List.getElem_toArray, List.getElem_cons_succ, List.getElem_cons_zero, List.setIfInBounds_toArray, List.set_cons_zero, List.set_cons_succ]
          refine wpAnyH_done (by kernel_rfl) ?_ _
          have HN := Lib.hid hIn
          clear hIn HIr HX xe xn
          go_wp2_with fail
          go_roundw
          case rel =>
            refine ⟨n' + 1, vn, _, by go_num, by omega, by omega, HN.out, ?_, ?_⟩
            · rw [← HQ.out, HT.out, List.filter_append, List.append_assoc]
            · have h1 := List.length_filter_le P0 ((m ||| 2 ^ n') :: tlK N (N - (n' + 1)) (m ||| 2 ^ n'))
              simp only [List.length_append, List.length_cons] at h1 ⊢
              omega
          case measure => simp [intOf]; omega
        · obtain rfl : n' = N := by omega
          have hq := HQ.out
          rw [Nat.sub_self, show tlK n' 0 m = [] from rfl] at hq
          simp only [List.filter_nil, List.append_nil] at hq
          have HQ2 := Lib.hid hq
          clear hq
          go_wp2_with fail
          go_end0
          exact ⟨rfl, v', by rw [← HQ2.out]; exact HIr.out⟩

    · have HE := Lib.hid (show (m :: tlK N k m).filter P0 = m :: (tlK N k m).filter P0 by rw [List.filter_cons_of_pos (by simp [hb])])
      rw [hb] at HC
      rw [HE.out, show ms ++ m :: (tlK N k m).filter P0 = (ms ++ [m]) ++ (tlK N k m).filter P0 by simp]
      clear hb HE
      go_enter Try.func111, Try.ntmps111
      go_wp2_with fail
      refine HC.out.mono ?_
      rintro e w1 ⟨rfl, hB⟩
      have HI1 := Lib.hid (HI.out.low hB)
      clear hB HI x0 HC
      have x1 := hp_cell HI1.out.bv (j := 0) (by rfl)
      have f1 := hp_free HI1.out.bv 0
      have hown := HI1.out.out
      go_wp2_with (at_builtin; refine wpList_append_own _ rfl (.tmp 12) (.tmp 14) 52 rfl (w.heap.size + 4) 51 i0 (.int .u64 0) 1 8 Try.underlying52 hi hz0 hz1 hz2 rfl (by decide) _ _ _ rfl (hown.alloc _) ⟨w1.heap.size, 0, none⟩ 1 1 [.int .u64 m] rfl rfl ?c1 ?c2 ?c3 ?c4 ?c5 ?_)
      case c1 => exact cell_one_new _ _ _
      case c2 => simp [Value.oneCell']
      case c3 => unfold maxLen; omega
      case c4 => omega
      case c5 => have := HI1.out.size; simp; omega
      intro v' w2 hown' hgrow _
      obtain ⟨va, vc, rfl⟩ := own_slice hown'
      have HI2 := Lib.hid (HI1.out.push hown' hgrow)
      have hsz := HI1.out.size
      have hsz2 : w1.heap.size < w2.heap.size := by have := hgrow.size; simp at this; omega
      have x2 : ∃ u, w2.cell? ⟨w.heap.size + 1 + 1, 0, none⟩ = some u := ⟨_, hp_cell (HI1.out.grow hgrow) (j := 0) (by rfl)⟩
      obtain ⟨u, x2⟩ := x2
      have f2 := hp_free (HI1.out.grow hgrow) 0
      have hl : (ms ++ [m]).length + (tlK N k m).length ≤ 2000 := by simp; omega
      clear HI1 hown hown' hgrow x1 f1 hsz hsz2 hlen
      go_wp2_with fail
      go_loopw [8] (fun s8 wr => ∃ (n' : Nat) (v' : Value) (ms' : List Nat), s8 = .int .i64 n' ∧ n ≤ n' ∧ n' ≤ N ∧ FdK N (.func (.func 68) #[.slice a sl cap] #[]) w v' ms' wr ∧ ms' ++ (tlK N (N - n') m).filter P0 = (ms ++ [m]) ++ (tlK N k m).filter P0 ∧ ms'.length + (tlK N (N - n') m).length ≤ 2000) (fun s8 _ => N - (intOf s8).toNat)
      case atStart => exact ⟨n, _, _, rfl, Nat.le_refl _, by omega, HI2.out, by rw [show N - n = k by omega], by rw [show N - n = k by omega]; omega⟩
      case round =>
        obtain ⟨n', v', ms', rfl, hn1, hn2, hI, heq, hle⟩ := hrel
        have HQ := Lib.hid heq
        have HIr := Lib.hid hI
        have HLE := Lib.hid hle
        clear HI2 heq hI hle
        have xn := hp_cell HIr.out.bn (j := 0) (by rfl)
        by_cases hlt : n' < N
        · have HW := Lib.hid (fun w => kWith_any m n' hm (by omega) w)
          have HT := Lib.hid (tlK_step hlt m)
          have hle2 := HLE.out
          rw [HT.out] at hle2
          simp only [List.length_append, List.length_cons] at hle2
          have hx := fun W h => IH.out (N - (n' + 1)) (by omega) (m ||| 2 ^ n') (n' + 1) v' ms' W (by omega) (or_ltK hm (powK (by omega)).1) (by omega) h
          have ec : (((n' + 1 : Nat)) : Int) = (n' : Int) + 1 := by omega
          simp only [ec] at hx
          have HX := Lib.hid hx
          clear hx ec
          have xe := hp_cell HIr.out.be (j := 0) (by rfl)
          go_wp2_with fail
          refine wp_region_held_drew (S := (fun w' => w'.cell? ⟨w.heap.size + 1 + 1 + 1, 0, none⟩ = some (.func (.func 111) #[] #[.pointer (some ⟨w.heap.size + 1, 0, none⟩), .pointer (some ⟨w.heap.size + 1 + 1, 0, none⟩), .pointer (some ⟨w.heap.size, 0, none⟩), .pointer (some ⟨w.heap.size + 1 + 1 + 1, 0, none⟩)]))) (by kernel_rfl) ?_ (fun hHeld => ?_)
          · exact xe
          refine wpAnyH_take (i := 0) (oi := ?oiy0) (v := ?vy0) ?hiy0 (by kernel_rfl) (by kernel_rfl) (by kernel_rfl) ?hqy0 ?hyy0 hHeld ?resty0
          case hiy0 => exact rfl
          case hqy0 => exact fun _ _ _ h => h
          case hyy0 =>
            refine Or.inl ⟨by rfl, ?_⟩
            intro w hSw
            (try dsimp only at hSw)
            go_simp
            (try with_reducible rfl)
          try simp only [Act.put, List.getElem_toArray, List.getElem_cons_succ, List.getElem_cons_zero, List.setIfInBounds_toArray, List.set_cons_zero, List.set_cons_succ]
          refine wpAnyH_take (i := 1) (oi := ?oiy1) (v := ?vy1) ?hiy1 (by kernel_rfl) (by kernel_rfl) (by kernel_rfl) ?hqy1 ?hyy1 hHeld ?resty1
          case hiy1 => exact rfl
          case hqy1 => exact fun _ _ _ h => h
          case hyy1 =>
            refine Or.inl ⟨by rfl, ?_⟩
            intro w hSw
            (try dsimp only at hSw)
            go_simp
            (try with_reducible rfl)
          try simp only [Act.put, List.getElem_toArray, List.getElem_cons_succ, List.getElem_cons_zero, List.setIfInBounds_toArray, List.set_cons_zero, List.set_cons_succ]
          refine wpAnyH_take (i := 2) (oi := ?oiy2) (v := ?vy2) ?hiy2 (by kernel_rfl) (by kernel_rfl) (by kernel_rfl) ?hqy2 ?hyy2 hHeld ?resty2
          case hiy2 => exact rfl
          case hqy2 => exact fun _ _ _ h => h
          case hyy2 =>
            refine Or.inl ⟨by rfl, ?_⟩
            intro w hSw
            (try dsimp only at hSw)
            go_simp
            (try with_reducible rfl)
          try simp only [Act.put, List.getElem_toArray, List.getElem_cons_succ, List.getElem_cons_zero, List.setIfInBounds_toArray, List.set_cons_zero, List.set_cons_succ]
          refine wpAnyH_take (i := 4) (oi := ?oiy4) (v := ?vy4) ?hiy4 (by kernel_rfl) (by kernel_rfl) (by kernel_rfl) ?hqy4 ?hyy4 hHeld ?resty4
          case hiy4 => exact rfl
          case hqy4 => exact fun _ _ _ h => h
          case hyy4 =>
            refine Or.inl ⟨by rfl, ?_⟩
            intro w hSw
            (try dsimp only at hSw)
            go_simp
            (try with_reducible rfl)
          try simp only [Act.put, List.getElem_toArray, List.getElem_cons_succ, List.getElem_cons_zero, List.setIfInBounds_toArray, List.set_cons_zero, List.set_cons_succ]
          refine wpAnyH_take (i := 5) (oi := ?oiy5) (v := ?vy5) ?hiy5 (by kernel_rfl) (by kernel_rfl) (by kernel_rfl) ?hqy5 ?hyy5 hHeld ?resty5
          case hiy5 => exact rfl
          case hqy5 => exact fun _ _ _ h => h
          case hyy5 =>
            refine Or.inl ⟨by rfl, ?_⟩
            intro w hSw
            (try dsimp only at hSw)
            go_simp
            (try with_reducible rfl)
          try simp only [Act.put, List.getElem_toArray, List.getElem_cons_succ, List.getElem_cons_zero, List.setIfInBounds_toArray, List.set_cons_zero, List.set_cons_succ]
          refine wpAnyH_ready (rs := [3]) (by kernel_rfl) (by simp) ?_
          refine AllReadyH.cons (o := ?ooy3) ?hoy3 ?hky3 AllReadyH.nil
          case hoy3 => exact rfl
          intro K hK
          go_simp
          refine (HW.out _).mono ?_
          rintro e wa ⟨rfl, rfl⟩
          refine hK.out _ _ ?_ (fun hHeld => ?_)
          · exact xe
          clear hK K
          try simp only [Act.put, List.getElem_toArray, List.getElem_cons_succ, List.getElem_cons_zero, List.setIfInBounds_toArray, List.set_cons_zero, List.set_cons_succ]
          refine wpAnyH_ready (rs := [6]) (by kernel_rfl) (by simp) ?_
          refine AllReadyH.cons (o := ?ooy6) ?hoy6 ?hky6 AllReadyH.nil
          case hoy6 => exact rfl
          intro K hK
          go_simp
          rw [IntWalk.i64_in ((n' : Int) + 1) (by omega)]
          refine (HX.out _ HIr.out.drew).mono ?_
          rintro e wa ⟨rfl, vn, hIn⟩
          refine hK.out _ _ ?_ (fun hHeld => ?_)
          · exact hp_cell hIn.be (j := 0) (by rfl)
          clear hK K
          try simp only [Act.put, List.getElem_toArray, List.getElem_cons_succ, List.getElem_cons_zero, List.setIfInBounds_toArray, List.set_cons_zero, List.set_cons_succ]
          refine wpAnyH_done (by kernel_rfl) ?_ _
          have HN := Lib.hid hIn
          clear hIn HIr HX xe xn
          go_wp2_with fail
          go_roundw
          case rel =>
            refine ⟨n' + 1, vn, _, by go_num, by omega, by omega, HN.out, ?_, ?_⟩
            · rw [← HQ.out, HT.out, List.filter_append, List.append_assoc]
            · have h1 := List.length_filter_le P0 ((m ||| 2 ^ n') :: tlK N (N - (n' + 1)) (m ||| 2 ^ n'))
              simp only [List.length_append, List.length_cons] at h1 ⊢
              omega
          case measure => simp [intOf]; omega
        · obtain rfl : n' = N := by omega
          have hq := HQ.out
          rw [Nat.sub_self, show tlK n' 0 m = [] from rfl] at hq
          simp only [List.filter_nil, List.append_nil] at hq
          have HQ2 := Lib.hid hq
          clear hq
          go_wp2_with fail
          go_end0
          exact ⟨rfl, v', by rw [← HQ2.out]; exact HIr.out⟩


set_option maxRecDepth 100000 in
set_option maxHeartbeats 4000000 in
theorem kfind_C (P0 : Nat → Bool) (a : Option Addr) (sl cap : Nat) (N : Nat) (hN : N ≤ 10) (w : World)
    (hP : ∀ (m : Nat) (W : World), m < 1024 → Below w.heap.size w W → Calls Try.prog 68 #[.slice a sl cap, .int .u64 m] W fun e W' => e = .returned (.bool (P0 m)) ∧ Below W.heap.size W W') :
    Calls Try.prog 76 #[.int .i64 N, .func (.func 68) #[.slice a sl cap] #[]] w (GivesMsk ((enumK N).filter P0) w) := by
  have hl2 : 2 ^ N ≤ 2 ^ 10 := Nat.pow_le_pow_right (by omega) hN
  have HX := Lib.hid (fun W h => kext_C P0 a sl cap N hN w hP N 0 0 (.slice none 0 0) [] W rfl (by decide) (by rw [tlK_len]; simp; omega) h)
  clear hP hl2
  go_enter Try.func76, Try.ntmps76
  go_wp2_with fail
  have hI0 : FdK N (.func (.func 68) #[.slice a sl cap] #[]) w (.slice none 0 0) [] ((((w.alloc (.cells #[.int .i64 (N : Int)] 3)).alloc (.cells #[.func (.func 68) #[.slice a sl cap] #[]] 63)).alloc (.cells #[.slice none 0 0] 52)).alloc (.cells #[.func (.func 111) #[] #[.pointer (some ⟨w.heap.size + 1, 0, none⟩), .pointer (some ⟨w.heap.size + 1 + 1, 0, none⟩), .pointer (some ⟨w.heap.size, 0, none⟩), .pointer (some ⟨w.heap.size + 1 + 1 + 1, 0, none⟩)]] 96)) :=
    ⟨hp_alloc (hp_alloc (hp_alloc (hp_new rfl))), hp_alloc (hp_alloc (hp_new (by simp))), hp_alloc (hp_new (by simp)), hp_new (by simp), World.ownsRow_nil _ _ _ _, ((((Below.refl _ _).alloc (Nat.le_refl _) _).alloc (by simp) _).alloc (by simp; omega) _).alloc (by simp; omega) _⟩
  refine (HX.out _ hI0).mono ?_
  rintro e w1 ⟨rfl, v', hI⟩
  have e1 : [] ++ (0 :: tlK N N 0).filter P0 = (enumK N).filter P0 := rfl
  rw [e1] at hI
  obtain ⟨va, vc, rfl⟩ := own_slice hI.out
  have x1 := hp_cell hI.bv (j := 0) (by rfl)
  have HM := Lib.hid (msk_of_own hI.out)
  have HB := Lib.hid hI.below
  clear hI hI0 HX e1
  go_wp2_with fail
  go_ret
  exact ⟨va, vc, rfl, HM.out.1, HB.out⟩

end Go.Proofs.Ytmigkbimdjiigaa
