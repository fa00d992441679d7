/- Several texts in one. -/
import Derived.Test.YtigaklppdlknkaaGreatBlI
/- The search over all sets, for one function value: contract. -/
set_option linter.unusedVariables false
set_option linter.unusedSimpArgs false
namespace Go.Proofs.YtigaklppdlknkaaGreat
open Go.RowKit Tinker

set_option maxRecDepth 100000 in
set_option maxHeartbeats 4000000 in
theorem extend_L (P0 : Nat → Bool) (P : Nat) (w : World)
    (hP : ∀ (m : Nat) (W : World), m < 256 → Below w.heap.size w W → Calls Tryz.prog 99 #[.int .u64 m, .pointer (some ⟨P, 0, none⟩)] W fun e W' => e = .returned (.bool (P0 m)) ∧ Below W.heap.size W W') :
    ∀ (k m n : Nat) (v : Value) (ms : List Nat) (W : World), k + n = 8 → m < 256 → ms.length + (tlM k m).length + 1 ≤ 1000 → FdI (.func (.func 99) #[] #[.pointer (some ⟨P, 0, none⟩)]) w v ms W →
      Calls Tryz.prog 118 #[.int .u64 m, .int .i64 n, .pointer (some ⟨w.heap.size, 0, none⟩), .pointer (some ⟨w.heap.size + 1, 0, none⟩), .pointer (some ⟨w.heap.size + 1 + 1, 0, none⟩)] W
        fun e W' => e = .returned (.tuple #[]) ∧ ∃ v', FdI (.func (.func 99) #[] #[.pointer (some ⟨P, 0, none⟩)]) w v' (ms ++ (m :: tlM k m).filter P0) W' := by
  intro k
  induction k using Nat.strongRecOn with
  | _ k ih =>
    intro m n v ms W hkn hm hlen hI
    obtain ⟨i0, hi, hz0, hz1, hz2⟩ := info_parts info_mask
    have HC := Lib.hid (hP m W hm hI.below)
    have HP := Lib.hid hP
    have IH := Lib.hid ih
    have HI := Lib.hid hI
    have x0 := hp_cell hI.bf (j := 0) (by rfl)
    clear hP ih hI
    have REST : ∀ (v1 : Value) (ms1 : List Nat) (W1 : World), True := fun _ _ _ => trivial
    clear REST
    cases hb : P0 m
    · have HE := Lib.hid (show (m :: tlM k m).filter P0 = (tlM k m).filter P0 by rw [List.filter_cons_of_neg (by simp [hb])])
      rw [hb] at HC
      rw [HE.out]
      clear hb HE
      go_enter Tryz.func118, Tryz.ntmps118
      go_wp2_with fail
      refine HC.out.mono ?_
      rintro e w1 ⟨rfl, hB⟩
      have HI1 := Lib.hid (HI.out.low hB)
      clear hB HI x0 HC
      go_wp2_with fail
      go_loopw [7] (fun s7 wr => ∃ (n' : Nat) (v' : Value) (ms' : List Nat), s7 = .int .i64 n' ∧ n ≤ n' ∧ n' ≤ 8 ∧ FdI (.func (.func 99) #[] #[.pointer (some ⟨P, 0, none⟩)]) w v' ms' wr ∧ ms' ++ (tlM (8 - n') m).filter P0 = ms ++ (tlM k m).filter P0 ∧ ms'.length + (tlM (8 - n') m).length ≤ 1000) (fun s7 _ => 8 - (intOf s7).toNat)
      case atStart => exact ⟨n, _, _, rfl, Nat.le_refl _, by omega, HI1.out, by rw [show 8 - n = k by omega], by rw [show 8 - n = k by omega]; omega⟩
      case round =>
        obtain ⟨n', v', ms', rfl, hn1, hn2, hI, heq, hle⟩ := hrel
        have HQ := Lib.hid heq
        have HIr := Lib.hid hI
        have HLE := Lib.hid hle
        clear HI1 heq hI hle
        by_cases hlt : n' < 8
        · have HW := Lib.hid (fun w => with_any m n' hm hlt w)
          have HT := Lib.hid (tlM_step hlt m)
          have hle2 := HLE.out
          rw [HT.out] at hle2
          simp only [List.length_append, List.length_cons] at hle2
          have hx := fun W h => IH.out (8 - (n' + 1)) (by omega) (m ||| 2 ^ n') (n' + 1) v' ms' W (by omega) (with_lt m hm n' hlt) (by omega) h
          have ec : (((n' + 1 : Nat)) : Int) = (n' : Int) + 1 := by omega
          simp only [ec] at hx
          have HX := Lib.hid hx
          clear hx ec
          have xe := hp_cell HIr.out.be (j := 0) (by rfl)
          go_wp2_with fail
          refine wp_region_held_drew (S := (fun w' => w'.cell? ⟨w.heap.size + 1 + 1, 0, none⟩ = some (.func (.func 118) #[] #[.pointer (some ⟨w.heap.size, 0, none⟩), .pointer (some ⟨w.heap.size + 1, 0, none⟩), .pointer (some ⟨w.heap.size + 1 + 1, 0, none⟩)]))) (by kernel_rfl) ?_ (fun hHeld => ?_)
          · exact xe
          refine wpAnyH_take (i := 0) (oi := ?oiz00) (v := ?vz00) ?hiz00 (by kernel_rfl) (by kernel_rfl) (by kernel_rfl) ?hqz00 ?hyz00 hHeld ?restz00
          case hiz00 => exact rfl
          case hqz00 => exact fun _ _ _ h => h
          case hyz00 =>
            refine Or.inl ⟨by rfl, ?_⟩
            intro w hSw
            (try dsimp only at hSw)
            go_simp
            (try with_reducible rfl)
          try simp only [Act.put, List.getElem_toArray, List.getElem_cons_succ, List.getElem_cons_zero, List.setIfInBounds_toArray, List.set_cons_zero, List.set_cons_succ]
          refine wpAnyH_take (i := 1) (oi := ?oiz01) (v := ?vz01) ?hiz01 (by kernel_rfl) (by kernel_rfl) (by kernel_rfl) ?hqz01 ?hyz01 hHeld ?restz01
          case hiz01 => exact rfl
          case hqz01 => exact fun _ _ _ h => h
          case hyz01 =>
            refine Or.inl ⟨by rfl, ?_⟩
            intro w hSw
            (try dsimp only at hSw)
            go_simp
            (try with_reducible rfl)
          try simp only [Act.put, List.getElem_toArray, List.getElem_cons_succ, List.getElem_cons_zero, List.setIfInBounds_toArray, List.set_cons_zero, List.set_cons_succ]
          refine wpAnyH_take (i := 2) (oi := ?oiz02) (v := ?vz02) ?hiz02 (by kernel_rfl) (by kernel_rfl) (by kernel_rfl) ?hqz02 ?hyz02 hHeld ?restz02
          case hiz02 => exact rfl
          case hqz02 => exact fun _ _ _ h => h
          case hyz02 =>
            refine Or.inl ⟨by rfl, ?_⟩
            intro w hSw
            (try dsimp only at hSw)
            go_simp
            (try with_reducible rfl)
          try simp only [Act.put, List.getElem_toArray, List.getElem_cons_succ, List.getElem_cons_zero, List.setIfInBounds_toArray, List.set_cons_zero, List.set_cons_succ]
          refine wpAnyH_take (i := 4) (oi := ?oiz04) (v := ?vz04) ?hiz04 (by kernel_rfl) (by kernel_rfl) (by kernel_rfl) ?hqz04 ?hyz04 hHeld ?restz04
          case hiz04 => exact rfl
          case hqz04 => exact fun _ _ _ h => h
          case hyz04 =>
            refine Or.inl ⟨by rfl, ?_⟩
            intro w hSw
            (try dsimp only at hSw)
            go_simp
            (try with_reducible rfl)
          try simp only [Act.put, List.getElem_toArray, List.getElem_cons_succ, List.getElem_cons_zero, List.setIfInBounds_toArray, List.set_cons_zero, List.set_cons_succ]
          refine wpAnyH_take (i := 5) (oi := ?oiz05) (v := ?vz05) ?hiz05 (by kernel_rfl) (by kernel_rfl) (by kernel_rfl) ?hqz05 ?hyz05 hHeld ?restz05
          case hiz05 => exact rfl
          case hqz05 => exact fun _ _ _ h => h
          case hyz05 =>
            refine Or.inl ⟨by rfl, ?_⟩
            intro w hSw
            (try dsimp only at hSw)
            go_simp
            (try with_reducible rfl)
          try simp only [Act.put, List.getElem_toArray, List.getElem_cons_succ, List.getElem_cons_zero, List.setIfInBounds_toArray, List.set_cons_zero, List.set_cons_succ]
          refine wpAnyH_ready (rs := [3]) (by kernel_rfl) (by simp) ?_
          refine AllReadyH.cons (o := ?ooz03) ?hoz03 ?hkz03 AllReadyH.nil
          case hoz03 => exact rfl
          intro K hK
          go_simp
          refine (HW.out _).mono ?_
          rintro e wa ⟨rfl, rfl⟩
          refine hK.out _ _ ?_ (fun hHeld => ?_)
          · exact xe
          clear hK K
          try simp only [Act.put, List.getElem_toArray, List.getElem_cons_succ, List.getElem_cons_zero, List.setIfInBounds_toArray, List.set_cons_zero, List.set_cons_succ]
          refine wpAnyH_ready (rs := [6]) (by kernel_rfl) (by simp) ?_
          refine AllReadyH.cons (o := ?ooz06) ?hoz06 ?hkz06 AllReadyH.nil
          case hoz06 => exact rfl
          intro K hK
          go_simp
          rw [IntWalk.i64_in ((n' : Int) + 1) (by omega)]
          refine (HX.out _ HIr.out.drew).mono ?_
          rintro e wa ⟨rfl, vn, hIn⟩
          refine hK.out _ _ ?_ (fun hHeld => ?_)
          · exact hp_cell hIn.be (j := 0) (by rfl)
          clear hK K
          try simp only [Act.put, List.getElem_toArray, List.getElem_cons_succ, List.getElem_cons_zero, List.setIfInBounds_toArray, List.set_cons_zero, List.set_cons_succ]
          refine wpAnyH_done (by kernel_rfl) ?_ _
          have HN := Lib.hid hIn
          clear hIn HIr HX xe
          go_wp2_with fail
          go_roundw
          case rel =>
            refine ⟨n' + 1, vn, _, by go_num, by omega, by omega, HN.out, ?_, ?_⟩
            · rw [← HQ.out, HT.out, List.filter_append, List.append_assoc]
            · have h1 := List.length_filter_le P0 ((m ||| 2 ^ n') :: tlM (8 - (n' + 1)) (m ||| 2 ^ n'))
              simp only [List.length_append, List.length_cons] at h1 ⊢
              omega
          case measure => simp [intOf]; omega
        · obtain rfl : n' = 8 := by omega
          have hq := HQ.out
          rw [show tlM (8 - 8) m = [] from rfl] at hq
          simp only [List.filter_nil, List.append_nil] at hq
          have HQ2 := Lib.hid hq
          clear hq
          go_wp2_with fail
          go_end0
          exact ⟨rfl, v', by rw [← HQ2.out]; exact HIr.out⟩
    · have HE := Lib.hid (show (m :: tlM k m).filter P0 = m :: (tlM k m).filter P0 by rw [List.filter_cons_of_pos (by simp [hb])])
      rw [hb] at HC
      rw [HE.out, show ms ++ m :: (tlM k m).filter P0 = (ms ++ [m]) ++ (tlM k m).filter P0 by simp]
      clear hb HE
      go_enter Tryz.func118, Tryz.ntmps118
      go_wp2_with fail
      refine HC.out.mono ?_
      rintro e w1 ⟨rfl, hB⟩
      have HI1 := Lib.hid (HI.out.low hB)
      clear hB HI x0 HC
      have x1 := hp_cell HI1.out.bv (j := 0) (by rfl)
      have f1 := hp_free HI1.out.bv 0
      have hown := HI1.out.out
      go_wp2_with (at_builtin; refine wpList_append_own _ rfl (.tmp 11) (.tmp 13) 85 rfl (w.heap.size + 3) 88 i0 (.int .u64 0) 1 8 Tryz.underlying85 hi hz0 hz1 hz2 rfl (by decide) _ _ _ rfl (hown.alloc _) ⟨w1.heap.size, 0, none⟩ 1 1 [.int .u64 m] rfl rfl ?c1 ?c2 ?c3 ?c4 ?c5 ?_)
      case c1 => exact cell_one_new _ _ _
      case c2 => simp [Value.oneCell']
      case c3 => unfold maxLen; omega
      case c4 => omega
      case c5 => have := HI1.out.size; simp; omega
      intro v' w2 hown' hgrow _
      obtain ⟨va, vc, rfl⟩ := own_slice hown'
      have HI2 := Lib.hid (HI1.out.push hown' hgrow)
      have hsz := HI1.out.size
      have hsz2 : w1.heap.size < w2.heap.size := by have := hgrow.size; simp at this; omega
      have x2 : ∃ u, w2.cell? ⟨w.heap.size + 1, 0, none⟩ = some u := ⟨_, hp_cell (HI1.out.grow hgrow) (j := 0) (by rfl)⟩
      obtain ⟨u, x2⟩ := x2
      have f2 := hp_free (HI1.out.grow hgrow) 0
      have hl : (ms ++ [m]).length + (tlM k m).length ≤ 1000 := by simp; omega
      clear HI1 hown hown' hgrow x1 f1 hsz hsz2 hlen
      go_wp2_with fail
      go_loopw [7] (fun s7 wr => ∃ (n' : Nat) (v' : Value) (ms' : List Nat), s7 = .int .i64 n' ∧ n ≤ n' ∧ n' ≤ 8 ∧ FdI (.func (.func 99) #[] #[.pointer (some ⟨P, 0, none⟩)]) w v' ms' wr ∧ ms' ++ (tlM (8 - n') m).filter P0 = (ms ++ [m]) ++ (tlM k m).filter P0 ∧ ms'.length + (tlM (8 - n') m).length ≤ 1000) (fun s7 _ => 8 - (intOf s7).toNat)
      case atStart => exact ⟨n, _, _, rfl, Nat.le_refl _, by omega, HI2.out, by rw [show 8 - n = k by omega], by rw [show 8 - n = k by omega]; omega⟩
      case round =>
        obtain ⟨n', v', ms', rfl, hn1, hn2, hI, heq, hle⟩ := hrel
        have HQ := Lib.hid heq
        have HIr := Lib.hid hI
        have HLE := Lib.hid hle
        clear HI2 heq hI hle
        by_cases hlt : n' < 8
        · have HW := Lib.hid (fun w => with_any m n' hm hlt w)
          have HT := Lib.hid (tlM_step hlt m)
          have hle2 := HLE.out
          rw [HT.out] at hle2
          simp only [List.length_append, List.length_cons] at hle2
          have hx := fun W h => IH.out (8 - (n' + 1)) (by omega) (m ||| 2 ^ n') (n' + 1) v' ms' W (by omega) (with_lt m hm n' hlt) (by omega) h
          have ec : (((n' + 1 : Nat)) : Int) = (n' : Int) + 1 := by omega
          simp only [ec] at hx
          have HX := Lib.hid hx
          clear hx ec
          have xe := hp_cell HIr.out.be (j := 0) (by rfl)
          go_wp2_with fail
          refine wp_region_held_drew (S := (fun w' => w'.cell? ⟨w.heap.size + 1 + 1, 0, none⟩ = some (.func (.func 118) #[] #[.pointer (some ⟨w.heap.size, 0, none⟩), .pointer (some ⟨w.heap.size + 1, 0, none⟩), .pointer (some ⟨w.heap.size + 1 + 1, 0, none⟩)]))) (by kernel_rfl) ?_ (fun hHeld => ?_)
          · exact xe
          refine wpAnyH_take (i := 0) (oi := ?oiy00) (v := ?vy00) ?hiy00 (by kernel_rfl) (by kernel_rfl) (by kernel_rfl) ?hqy00 ?hyy00 hHeld ?resty00
          case hiy00 => exact rfl
          case hqy00 => exact fun _ _ _ h => h
          case hyy00 =>
            refine Or.inl ⟨by rfl, ?_⟩
            intro w hSw
            (try dsimp only at hSw)
            go_simp
            (try with_reducible rfl)
          try simp only [Act.put, List.getElem_toArray, List.getElem_cons_succ, List.getElem_cons_zero, List.setIfInBounds_toArray, List.set_cons_zero, List.set_cons_succ]
          refine wpAnyH_take (i := 1) (oi := ?oiy01) (v := ?vy01) ?hiy01 (by kernel_rfl) (by kernel_rfl) (by kernel_rfl) ?hqy01 ?hyy01 hHeld ?resty01
          case hiy01 => exact rfl
          case hqy01 => exact fun _ _ _ h => h
          case hyy01 =>
            refine Or.inl ⟨by rfl, ?_⟩
            intro w hSw
            (try dsimp only at hSw)
            go_simp
            (try with_reducible rfl)
          try simp only [Act.put, List.getElem_toArray, List.getElem_cons_succ, List.getElem_cons_zero, List.setIfInBounds_toArray, List.set_cons_zero, List.set_cons_succ]
          refine wpAnyH_take (i := 2) (oi := ?oiy02) (v := ?vy02) ?hiy02 (by kernel_rfl) (by kernel_rfl) (by kernel_rfl) ?hqy02 ?hyy02 hHeld ?resty02
          case hiy02 => exact rfl
          case hqy02 => exact fun _ _ _ h => h
          case hyy02 =>
            refine Or.inl ⟨by rfl, ?_⟩
            intro w hSw
            (try dsimp only at hSw)
            go_simp
            (try with_reducible rfl)
          try simp only [Act.put, List.getElem_toArray, List.getElem_cons_succ, List.getElem_cons_zero, List.setIfInBounds_toArray, List.set_cons_zero, List.set_cons_succ]
          refine wpAnyH_take (i := 4) (oi := ?oiy04) (v := ?vy04) ?hiy04 (by kernel_rfl) (by kernel_rfl) (by kernel_rfl) ?hqy04 ?hyy04 hHeld ?resty04
          case hiy04 => exact rfl
          case hqy04 => exact fun _ _ _ h => h
          case hyy04 =>
            refine Or.inl ⟨by rfl, ?_⟩
            intro w hSw
            (try dsimp only at hSw)
            go_simp
            (try with_reducible rfl)
          try simp only [Act.put, List.getElem_toArray, List.getElem_cons_succ, List.getElem_cons_zero, List.setIfInBounds_toArray, List.set_cons_zero, List.set_cons_succ]
          refine wpAnyH_take (i := 5) (oi := ?oiy05) (v := ?vy05) ?hiy05 (by kernel_rfl) (by kernel_rfl) (by kernel_rfl) ?hqy05 ?hyy05 hHeld ?resty05
          case hiy05 => exact rfl
          case hqy05 => exact fun _ _ _ h => h
          case hyy05 =>
            refine Or.inl ⟨by rfl, ?_⟩
            intro w hSw
            (try dsimp only at hSw)
            go_simp
            (try with_reducible rfl)
          try simp only [Act.put, List.getElem_toArray, List.getElem_cons_succ, List.getElem_cons_zero, List.setIfInBounds_toArray, List.set_cons_zero, List.set_cons_succ]
          refine wpAnyH_ready (rs := [3]) (by kernel_rfl) (by simp) ?_
          refine AllReadyH.cons (o := ?ooy03) ?hoy03 ?hky03 AllReadyH.nil
          case hoy03 => exact rfl
          intro K hK
          go_simp
          refine (HW.out _).mono ?_
          rintro e wa ⟨rfl, rfl⟩
          refine hK.out _ _ ?_ (fun hHeld => ?_)
          · exact xe
          clear hK K
          try simp only [Act.put, List.getElem_toArray, List.getElem_cons_succ, List.getElem_cons_zero, List.setIfInBounds_toArray, List.set_cons_zero, List.set_cons_succ]
          refine wpAnyH_ready (rs := [6]) (by kernel_rfl) (by simp) ?_
          refine AllReadyH.cons (o := ?ooy06) ?hoy06 ?hky06 AllReadyH.nil
          case hoy06 => exact rfl
          intro K hK
          go_simp
          rw [IntWalk.i64_in ((n' : Int) + 1) (by omega)]
          refine (HX.out _ HIr.out.drew).mono ?_
          rintro e wa ⟨rfl, vn, hIn⟩
          refine hK.out _ _ ?_ (fun hHeld => ?_)
          · exact hp_cell hIn.be (j := 0) (by rfl)
          clear hK K
          try simp only [Act.put, List.getElem_toArray, List.getElem_cons_succ, List.getElem_cons_zero, List.setIfInBounds_toArray, List.set_cons_zero, List.set_cons_succ]
          refine wpAnyH_done (by kernel_rfl) ?_ _
          have HN := Lib.hid hIn
          clear hIn HIr HX xe
          go_wp2_with fail
          go_roundw
          case rel =>
            refine ⟨n' + 1, vn, _, by go_num, by omega, by omega, HN.out, ?_, ?_⟩
            · rw [← HQ.out, HT.out, List.filter_append, List.append_assoc]
            · have h1 := List.length_filter_le P0 ((m ||| 2 ^ n') :: tlM (8 - (n' + 1)) (m ||| 2 ^ n'))
              simp only [List.length_append, List.length_cons] at h1 ⊢
              omega
          case measure => simp [intOf]; omega
        · obtain rfl : n' = 8 := by omega
          have hq := HQ.out
          rw [show tlM (8 - 8) m = [] from rfl] at hq
          simp only [List.filter_nil, List.append_nil] at hq
          have HQ2 := Lib.hid hq
          clear hq
          go_wp2_with fail
          go_end0
          exact ⟨rfl, v', by rw [← HQ2.out]; exact HIr.out⟩

set_option maxRecDepth 100000 in
set_option maxHeartbeats 4000000 in
theorem find_L (P0 : Nat → Bool) (P : Nat) (w : World)
    (hP : ∀ (m : Nat) (W : World), m < 256 → Below w.heap.size w W → Calls Tryz.prog 99 #[.int .u64 m, .pointer (some ⟨P, 0, none⟩)] W fun e W' => e = .returned (.bool (P0 m)) ∧ Below W.heap.size W W') :
    Calls Tryz.prog 60 #[.func (.func 99) #[] #[.pointer (some ⟨P, 0, none⟩)]] w (GivesMsk (enumM.filter P0) w) := by
  have HX := Lib.hid (fun W h => extend_L P0 P w hP 8 0 0 (.slice none 0 0) [] W rfl (by decide) (by decide) h)
  clear hP
  go_enter Tryz.func60, Tryz.ntmps60
  go_wp2_with fail
  have hI0 : FdI (.func (.func 99) #[] #[.pointer (some ⟨P, 0, none⟩)]) w (.slice none 0 0) [] (((w.alloc (.cells #[.func (.func 99) #[] #[.pointer (some ⟨P, 0, none⟩)]] 92)).alloc (.cells #[.slice none 0 0] 85)).alloc (.cells #[.func (.func 118) #[] #[.pointer (some ⟨w.heap.size, 0, none⟩), .pointer (some ⟨w.heap.size + 1, 0, none⟩), .pointer (some ⟨w.heap.size + 1 + 1, 0, none⟩)]] 142)) :=
    ⟨hp_alloc (hp_alloc (hp_new rfl)), hp_alloc (hp_new (by simp)), hp_new (by simp), World.ownsRow_nil _ _ _ _, (((Below.refl _ _).alloc (Nat.le_refl _) _).alloc (by simp) _).alloc (by simp; omega) _⟩
  refine (HX.out _ hI0).mono ?_
  rintro e w1 ⟨rfl, v', hI⟩
  have e1 : [] ++ (0 :: tlM 8 0).filter P0 = enumM.filter P0 := rfl
  rw [e1] at hI
  obtain ⟨va, vc, rfl⟩ := own_slice hI.out
  have x1 := hp_cell hI.bv (j := 0) (by rfl)
  have HM := Lib.hid (msk_of_own hI.out)
  have HB := Lib.hid hI.below
  clear hI hI0 HX e1
  go_wp2_with fail
  go_ret
  exact ⟨va, vc, rfl, HM.out.1, HB.out⟩

end Go.Proofs.YtigaklppdlknkaaGreat

/- Least of blame: contracts. -/
set_option linter.unusedVariables false
set_option linter.unusedSimpArgs false
namespace Go.Proofs.YtigaklppdlknkaaGreat
open Go.RowKit Tinker

theorem nat_beq (a b : Nat) : ((a : Int) == (b : Int)) = (a == b) := by
  rw [Bool.eq_iff_iff, beq_iff_eq, beq_iff_eq]; omega
theorem nat_bne (a b : Nat) : ((a : Int) != (b : Int)) = (a != b) := by
  rw [Bool.eq_iff_iff, bne_iff_ne, bne_iff_ne]; omega

set_option maxRecDepth 100000 in
set_option maxHeartbeats 1000000 in
theorem contains_any (m : Nat) (a : Option Addr) (cap : Nat) (ms : List Nat) (w : World) (hf : MskAt w a ms) (hl : ms.length ≤ 1000) :
    Calls Tryz.prog 100 #[.slice a ms.length cap, .int .u64 m] w fun e w' => e = .returned (.bool (ms.contains m)) ∧ w = w' := by
  generalize hcc : ms.contains m = C
  have HCC := Lib.hid hcc
  clear hcc
  have HI := Lib.hid (show Calls Tryz.prog 153 #[.slice a ms.length cap, .int .u64 m] w fun e w' => ∃ r : Int, e = .returned (.int .i64 r) ∧ decide (0 ≤ r) = C ∧ w = w' from by
    go_enter Tryz.func153, Tryz.ntmps153
    go_wp2_with fail
    go_loop [8] (fun s8 => ∃ k : Nat, k ≤ ms.length ∧ s8 = .int .i64 k ∧ (ms.take k).all (fun x => m != x) = true) (fun s8 => ms.length - (intOf s8).toNat)
    case atStart => exact ⟨0, Nat.zero_le _, rfl, by simp⟩
    case round =>
      obtain ⟨k, hk, rfl, hall⟩ := hrel
      have HA := Lib.hid hall
      clear hall
      by_cases hlt : k < ms.length
      · obtain ⟨b, off, x, rfl, hlb, hs, h0⟩ := hf.at_ hlt
        have HS := Lib.hid hs
        have hbe := nat_beq m x
        clear hf hs
        cases hb : (m == x)
        · have HZ := Lib.hid (show (m != x) = true by unfold bne; rw [hb]; rfl)
          rw [hb] at hbe
          clear hb
          go_wp2_with fail
          go_round
          case rel => exact ⟨k + 1, by omega, by go_num, all_snoc HA.out HS.out HZ.out⟩
          case measure => simp [intOf]; omega
        · have HZ := Lib.hid (show m = x by simpa using hb)
          rw [hb] at hbe
          clear hb
          go_wp2_with fail
          go_ret
          refine ⟨k, rfl, ?_, rfl⟩
          have : C = true := by rw [← HCC.out, List.contains_iff_mem, HZ.out]; exact mem_of_get HS.out
          rw [this]
          simp
      · have HZ := Lib.hid (all_whole HA.out hlt)
        go_wp2_with fail
        go_ret
        refine ⟨-1, rfl, ?_, rfl⟩
        have : C = false := by
          rw [← HCC.out]
          cases hc : ms.contains m
          · rfl
          · rw [List.contains_iff_mem] at hc
            have := List.all_eq_true.1 HZ.out m hc
            simp at this
        rw [this]
        decide)
  clear hf
  go_enter Tryz.func100, Tryz.ntmps100
  go_wp2_with fail
  refine HI.out.mono ?_
  rintro e w1 ⟨r, rfl, hr, rfl⟩
  have HR := Lib.hid hr
  clear hr
  go_wp2_with fail
  go_ret
  exact ⟨ret_bool HR.out, rfl⟩

set_option maxRecDepth 100000 in
set_option maxHeartbeats 1000000 in
theorem clos_isLeast (M m x : Nat) (hm : m < 256) (hx : x < 256) (w : World) (hM : w.cell? ⟨M, 0, none⟩ = some (.int .u64 m)) :
    Calls Tryz.prog 155 #[.int .u64 x, .pointer (some ⟨M, 0, none⟩)] w fun e w' => e = .returned (.bool ((x != m) && (x &&& m == x))) ∧ w = w' := by
  have hne := nat_bne x m
  have HP := Lib.hid (isPart_any x m hx hm w)
  generalize (x &&& m == x) = U at HP ⊢
  cases hb : (x != m)
  · rw [hb] at hne
    clear hb
    go_enter Tryz.func155, Tryz.ntmps155
    go_wp2_with fail
    go_ret
    exact ⟨rfl, rfl⟩
  · rw [hb] at hne
    clear hb
    go_enter Tryz.func155, Tryz.ntmps155
    go_wp2_with fail
    refine HP.out.mono ?_
    rintro e w1 ⟨rfl, rfl⟩
    go_wp2_with fail
    go_ret
    exact ⟨rfl, rfl⟩

/-- No other set of a family is a part. -/
def ilB (ms : List Nat) (m : Nat) : Bool := ms.all fun x => !((x != m) && (x &&& m == x))

set_option maxRecDepth 100000 in
set_option maxHeartbeats 1000000 in
theorem isLeast_any (m : Nat) (hm : m < 256) (a : Option Addr) (cap : Nat) (ms : List Nat) (w : World) (hf : MskAt w a ms) (hv : ∀ x ∈ ms, x < 256) (hl : ms.length ≤ 1000) :
    Calls Tryz.prog 101 #[.slice a ms.length cap, .int .u64 m] w fun e w' => e = .returned (.bool (ilB ms m)) ∧ Below w.heap.size w w' := by
  have HC := Lib.hid (fun (W : World) (hf : MskAt W a ms) (hM : W.cell? ⟨w.heap.size, 0, none⟩ = some (.int .u64 m)) => show Calls Tryz.prog 154 #[.slice a ms.length cap, .func (.func 155) #[] #[.pointer (some ⟨w.heap.size, 0, none⟩)]] W fun e w' => e = .returned (.bool (!ilB ms m)) ∧ W = w' from by
    have HI := Lib.hid (show Calls Tryz.prog 193 #[.slice a ms.length cap, .func (.func 155) #[] #[.pointer (some ⟨w.heap.size, 0, none⟩)]] W fun e w' => ∃ r : Int, e = .returned (.int .i64 r) ∧ decide (0 ≤ r) = !ilB ms m ∧ W = w' from by
      have HV := Lib.hid hv
      have HMC := Lib.hid hM
      clear hv hM
      go_enter Tryz.func193, Tryz.ntmps193
      go_wp2_with fail
      go_loop [8] (fun s8 => ∃ k : Nat, k ≤ ms.length ∧ s8 = .int .i64 k ∧ (ms.take k).all (fun x => !((x != m) && (x &&& m == x))) = true) (fun s8 => ms.length - (intOf s8).toNat)
      case atStart => exact ⟨0, Nat.zero_le _, rfl, by simp⟩
      case round =>
        obtain ⟨k, hk, rfl, hall⟩ := hrel
        have HA := Lib.hid hall
        clear hall
        by_cases hlt : k < ms.length
        · obtain ⟨b, off, x, rfl, hlb, hs, h0⟩ := hf.at_ hlt
          have HS := Lib.hid hs
          have HM := Lib.hid (clos_isLeast w.heap.size m x hm (HV.out x (mem_of_get hs)) W HMC.out)
          clear hf hs
          cases hb : ((x != m) && (x &&& m == x))
          · have HZ := Lib.hid (show (!((x != m) && (x &&& m == x))) = true by rw [hb]; rfl)
            rw [hb] at HM
            clear hb
            go_wp2_with fail
            refine HM.out.mono ?_
            rintro e w1 ⟨rfl, rfl⟩
            go_wp2_with fail
            go_round
            case rel => exact ⟨k + 1, by omega, by go_num, all_snoc HA.out HS.out HZ.out⟩
            case measure => simp [intOf]; omega
          · have HZ := Lib.hid (show (!((x != m) && (x &&& m == x))) = false by rw [hb]; rfl)
            rw [hb] at HM
            clear hb
            go_wp2_with fail
            refine HM.out.mono ?_
            rintro e w1 ⟨rfl, rfl⟩
            go_wp2_with fail
            go_ret
            refine ⟨k, rfl, ?_, rfl⟩
            unfold ilB
            rw [all_not HS.out HZ.out]
            simp
        · have HZ := Lib.hid (all_whole HA.out hlt)
          go_wp2_with fail
          go_ret
          refine ⟨-1, rfl, ?_, rfl⟩
          unfold ilB
          rw [HZ.out]
          decide)
    clear hf hv hM
    go_enter Tryz.func154, Tryz.ntmps154
    go_wp2_with fail
    refine HI.out.mono ?_
    rintro e w1 ⟨r, rfl, hr, rfl⟩
    have HR := Lib.hid hr
    clear hr
    go_wp2_with fail
    go_ret
    exact ⟨ret_bool HR.out, rfl⟩)
  have hb := ((Below.refl w.heap.size w).alloc (Nat.le_refl _) (.cells #[.int .u64 m] 88))
  have HX := Lib.hid (HC.out _ (hf.below hb (Nat.le_refl _)) (hp_cell (hp_new rfl) rfl))
  have HB := Lib.hid hb
  clear hf hv hb HC
  go_enter Tryz.func101, Tryz.ntmps101
  go_wp2_with fail
  refine HX.out.mono ?_
  rintro e w1 ⟨rfl, rfl⟩
  go_wp2_with fail
  go_ret
  exact ⟨ret_bool (by simp), HB.out⟩

theorem leastB_il (f : List Nat) (m : Nat) : leastB f m = (f.contains m && ilB f m) := by
  unfold leastB ilB
  congr 2
  funext x
  cases h1 : (x == m) <;> cases h2 : (x &&& m == x) <;> simp [bne, h1, h2]

set_option maxRecDepth 100000 in
set_option maxHeartbeats 1000000 in
theorem clos_least (w0 : World) (P : Nat) (a : Option Addr) (cap : Nat) (ms : List Nat) (hP : w0.cell? ⟨P, 0, none⟩ = some (.slice a ms.length cap)) (hPl : P < w0.heap.size) (hf : MskAt w0 a ms) (hv : ∀ x ∈ ms, x < 256) (hl : ms.length ≤ 1000) (m : Nat) (W : World) (hm : m < 256) (hB : Below w0.heap.size w0 W) :
    Calls Tryz.prog 99 #[.int .u64 m, .pointer (some ⟨P, 0, none⟩)] W fun e w' => e = .returned (.bool (leastB ms m)) ∧ Below W.heap.size W w' := by
  have hc := (hB.cell (p := ⟨P, 0, none⟩) hPl).trans hP
  have HF := Lib.hid (hf.below hB (Nat.le_refl _))
  have H1 := Lib.hid (contains_any m a cap ms W HF.out hl)
  have H2 := Lib.hid (isLeast_any m hm a cap ms W HF.out hv hl)
  rw [leastB_il]
  generalize ms.contains m = V at H1 ⊢
  generalize ilB ms m = U at H2 ⊢
  clear hf hP hB hv
  cases V
  · go_enter Tryz.func99, Tryz.ntmps99
    go_wp2_with fail
    refine H1.out.mono ?_
    rintro e w1 ⟨rfl, rfl⟩
    go_wp2_with fail
    go_ret
    exact ⟨rfl, Below.refl _ _⟩
  · go_enter Tryz.func99, Tryz.ntmps99
    go_wp2_with fail
    refine H1.out.mono ?_
    rintro e w1 ⟨rfl, rfl⟩
    go_wp2_with fail
    refine H2.out.mono ?_
    rintro e w2 ⟨rfl, hB2⟩
    go_wp2_with fail
    go_ret
    exact ⟨rfl, hB2⟩

/-- What Least answers. -/
def lstL (f : List (List Int)) : List (List Int) := if vfam f = 0 then (leastM (fmM f)).map numsM else []
theorem lstL_ok {f : List (List Int)} (h : vfam f = 0) : lstL f = (leastM (fmM f)).map numsM := by unfold lstL; rw [if_pos h]
theorem lstL_no {f : List (List Int)} (h : vfam f ≠ 0) : lstL f = [] := by unfold lstL; rw [if_neg h]

set_option maxRecDepth 100000 in
set_option maxHeartbeats 1000000 in
theorem Least_any (a : Option Addr) (cap : Nat) (f : List (List Int)) (w : World) (hf : RowsAt w a f) (hm : ∀ z ∈ f, z.length ≤ 1000) :
    Calls Tryz.prog 41 #[.slice a f.length cap] w (GivesRowsBE (lstL f) (vfam f) w) := by
  have HV := Lib.hid (validateF_any a cap f w hf hm)
  by_cases hz : vfam f = 0
  · obtain ⟨h70, hs⟩ := vfam_ok hz
    have H1 := Lib.hid (fun w h => masksOf_any a cap f w h hs (by omega))
    have H2 := Lib.hid (fun (w1 : World) (b : Option Addr) (c : Nat) (h : MskAt w1 b (fmM f)) (w2 : World) (e2 : w2 = w1.alloc (.cells #[.slice b (fmM f).length c] 85)) =>
      show Calls Tryz.prog 60 #[.func (.func 99) #[] #[.pointer (some ⟨w1.heap.size, 0, none⟩)]] w2 (GivesMsk (leastM (fmM f)) w2) by
        have hbx : w2.heap[w1.heap.size]? = some (.cells #[.slice b (fmM f).length c] 85 (0, 0)) := by rw [e2]; exact hp_new rfl
        have ht2 : MskAt w2 b (fmM f) := by rw [e2]; exact h.below ((Below.refl _ _).alloc (Nat.le_refl _) _) (Nat.le_refl _)
        exact find_L _ _ w2 (fun m W hm hB => clos_least w2 w1.heap.size b c (fmM f) (hp_cell hbx rfl) (hp_lt hbx) ht2 (fmM_lt hs) (by rw [fmM_len]; omega) m W hm hB))
    have H3 := Lib.hid (fun b c w h => family_any b c (leastM (fmM f)) w h (fun m hm => least_lt hm) (by have := least_len (f := fmM f) (fmM_lt hs); omega))
    rw [lstL_ok hz, hz]
    rw [hz] at HV
    generalize leastM (fmM f) = Z at H2 H3 ⊢
    have HR := Lib.hid hf
    clear hz hs hf hm
    go_enter Tryz.func41, Tryz.ntmps41
    go_wp2_with fail
    refine HV.out.mono ?_
    rintro e w1 ⟨rfl, hB⟩
    have HB := Lib.hid hB
    clear hB
    go_wp2_with fail
    refine (H1.out _ (HR.out.below HB.out (Nat.le_refl _))).mono ?_
    rintro e w2 ⟨a2, c2, rfl, h2, hB2⟩
    have HM2 := Lib.hid h2
    have HB2 := Lib.hid (HB.out.trans (hB2.mono HB.out.size))
    clear h2 hB2
    go_wp2_with fail
    refine (H2.out _ _ _ HM2.out _ rfl).mono ?_
    rintro e w3 ⟨a3, c3, rfl, h3, hB3⟩
    have HM3 := Lib.hid h3
    have HB3 := Lib.hid ((HB2.out.alloc HB2.out.size _).trans (hB3.mono (by have := HB2.out.size; simp; omega)))
    clear h3 hB3
    go_wp2_with fail
    refine (H3.out _ _ _ HM3.out).mono ?_
    rintro e w4 ⟨a4, c4, rfl, h4, hB4⟩
    have HM4 := Lib.hid (h4.wide HB3.out.size)
    have HB4 := Lib.hid (HB3.out.trans (hB4.mono HB3.out.size))
    clear h4 hB4
    go_wp2_with fail
    go_ret2
    exact ⟨a4, c4, by rw [List.length_map]; rfl, HM4.out, HB4.out⟩
  · rw [lstL_no hz]
    generalize vfam f = c at HV hz
    have hz1 : (c != 0) = true := by simpa using hz
    have hz2 : (c == 0) = false := by simpa using hz
    clear hz hf hm
    go_enter Tryz.func41, Tryz.ntmps41
    go_wp2_with fail
    refine HV.out.mono ?_
    rintro e w1 ⟨rfl, hB⟩
    go_wp2_with fail
    go_ret2
    exact givesRowsBE_nil hB

end Go.Proofs.YtigaklppdlknkaaGreat
