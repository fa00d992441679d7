/- Several texts in one. -/
import Derived.Test.YtigaklppdlknkaaGreatBlD
import Derived.Test.YtigaklppdlknkaaGreatForC
import Derived.Test.YtigaklppdlknkaaGreatTells
/- The memory of the search over all sets. -/
set_option linter.unusedVariables false
set_option linter.unusedSimpArgs false
namespace Go.Proofs.YtigaklppdlknkaaGreat
open Go.RowKit Tinker

theorem own_other {w : World} {base n size : Nat} {e : TypeId} {v : Value} {xs : List Value} (h : w.ownsRow base e size v n xs) {M : Nat} (hM : M < base) (j : Nat) (u : Value) : (w.setCell ⟨M, j, none⟩ u).ownsRow base e size v n xs := by
  refine ⟨h.1, ?_⟩
  rcases h.2 with hn | ⟨g, cap, cur, rfl, hbg, hg, rest⟩
  · exact .inl hn
  · exact .inr ⟨g, cap, cur, rfl, hbg, hp_set hg (p := ⟨M, j, none⟩) (by show g ≠ M; omega) _, rest⟩
/-- The memory of find: the function, what is found, the function that goes on. -/
structure FdI (f : Value) (w : World) (v : Value) (ms : List Nat) (W : World) : Prop where
  bf : W.heap[w.heap.size]? = some (.cells #[f] 92 (0, 0))
  bv : W.heap[w.heap.size + 1]? = some (.cells #[v] 85 (0, 0))
  be : W.heap[w.heap.size + 1 + 1]? = some (.cells #[.func (.func 118) #[] #[.pointer (some ⟨w.heap.size, 0, none⟩), .pointer (some ⟨w.heap.size + 1, 0, none⟩), .pointer (some ⟨w.heap.size + 1 + 1, 0, none⟩)]] 142 (0, 0))
  out : W.ownsRow (w.heap.size + 3) 88 1 v ms.length (uv ms)
  below : Below w.heap.size w W
theorem FdI.size {f : Value} {w : World} {v : Value} {ms : List Nat} {W : World} (h : FdI f w v ms W) : w.heap.size + 3 ≤ W.heap.size := by have := hp_lt h.be; omega
theorem FdI.low {f : Value} {w : World} {v : Value} {ms : List Nat} {W W' : World} (h : FdI f w v ms W) (hb : Below W.heap.size W W') : FdI f w v ms W' :=
  ⟨hp_below h.bf hb (hp_lt h.bf), hp_below h.bv hb (hp_lt h.bv), hp_below h.be hb (hp_lt h.be), own_below h.out hb (Nat.le_refl _), h.below.trans (hb.mono h.below.size)⟩
theorem FdI.drew {f : Value} {w : World} {v : Value} {ms : List Nat} {W : World} (h : FdI f w v ms W) : FdI f w v ms W.drew := h.low (Below.refl _ _).drew
theorem FdI.grow {f : Value} {w : World} {v : Value} {ms : List Nat} {W W3 : World} {o : Obj} (h : FdI f w v ms W) (hg : (W.alloc o).grownBy W3 v.ownBlock) : W3.heap[w.heap.size + 1]? = some (.cells #[v] 85 (0, 0)) := by
  have hs := h.size
  refine (hg.block _ (by simp; omega) (fun e => ?_)).trans (hp_alloc h.bv)
  have := (h.out.lt _ e.symm).1
  omega
theorem FdI.push {f : Value} {w : World} {v v' : Value} {ms : List Nat} {m : Nat} {W W3 : World} {o : Obj} (h : FdI f w v ms W) (hown : W3.ownsRow (w.heap.size + 3) 88 1 v' (ms.length + 1) (uv ms ++ [.int .u64 m])) (hg : (W.alloc o).grownBy W3 v.ownBlock) :
    FdI f w v' (ms ++ [m]) (W3.setCell ⟨w.heap.size + 1, 0, none⟩ v') := by
  have hs := h.size
  have hb : Below w.heap.size w W3 := ((h.below.alloc h.below.size o)).grown hg (by simp; omega) (fun k hk => by have := (h.out.lt k hk).1; omega)
  have hk : ∀ i, i < w.heap.size + 3 → W3.heap[i]? = W.heap[i]? := fun i hi => by
    rw [hg.block i (by simp; omega) (fun e => by have := (h.out.lt _ e.symm).1; omega)]
    exact Below.heap_alloc W o i (by omega)
  refine ⟨hp_set ((hk _ (by omega)).trans h.bf) (p := ⟨w.heap.size + 1, 0, none⟩) (by show w.heap.size ≠ w.heap.size + 1; omega) _, ?_, hp_set ((hk _ (by omega)).trans h.be) (p := ⟨w.heap.size + 1, 0, none⟩) (by show w.heap.size + 1 + 1 ≠ w.heap.size + 1; omega) _, ?_, hb.setCell (p := ⟨w.heap.size + 1, 0, none⟩) (by show _ ≤ w.heap.size + 1; omega) _⟩
  · have := hp_put ((hk (w.heap.size + 1) (by omega)).trans h.bv) 0 v'
    simpa using this
  · rw [uv_snoc]
    exact own_other (by simpa using hown) (by omega) _ _
theorem tlM_step {n : Nat} (h : n < 8) (m : Nat) : tlM (8 - n) m = ((m ||| 2 ^ n) :: tlM (8 - (n + 1)) (m ||| 2 ^ n)) ++ tlM (8 - (n + 1)) m := by
  rw [show 8 - n = (8 - (n + 1)) + 1 by omega, tlM, show 7 - (8 - (n + 1)) = n by omega]

end Go.Proofs.YtigaklppdlknkaaGreat

/- The search over all sets, for one function value: contract. -/
set_option linter.unusedVariables false
set_option linter.unusedSimpArgs false
namespace Go.Proofs.YtigaklppdlknkaaGreat
open Go.RowKit Tinker

set_option maxRecDepth 100000 in
set_option maxHeartbeats 4000000 in
theorem extend_B (P0 : Nat → Bool) (P : Nat) (w : World)
    (hP : ∀ (m : Nat) (W : World), m < 256 → Below w.heap.size w W → Calls Tryz.prog 151 #[.int .u64 m, .pointer (some ⟨P, 0, none⟩)] W fun e W' => e = .returned (.bool (P0 m)) ∧ Below W.heap.size W W') :
    ∀ (k m n : Nat) (v : Value) (ms : List Nat) (W : World), k + n = 8 → m < 256 → ms.length + (tlM k m).length + 1 ≤ 1000 → FdI (.func (.func 151) #[] #[.pointer (some ⟨P, 0, none⟩)]) w v ms W →
      Calls Tryz.prog 118 #[.int .u64 m, .int .i64 n, .pointer (some ⟨w.heap.size, 0, none⟩), .pointer (some ⟨w.heap.size + 1, 0, none⟩), .pointer (some ⟨w.heap.size + 1 + 1, 0, none⟩)] W
        fun e W' => e = .returned (.tuple #[]) ∧ ∃ v', FdI (.func (.func 151) #[] #[.pointer (some ⟨P, 0, none⟩)]) w v' (ms ++ (m :: tlM k m).filter P0) W' := by
  intro k
  induction k using Nat.strongRecOn with
  | _ k ih =>
    intro m n v ms W hkn hm hlen hI
    obtain ⟨i0, hi, hz0, hz1, hz2⟩ := info_parts info_mask
    have HC := Lib.hid (hP m W hm hI.below)
    have HP := Lib.hid hP
    have IH := Lib.hid ih
    have HI := Lib.hid hI
    have x0 := hp_cell hI.bf (j := 0) (by rfl)
    clear hP ih hI
    have REST : ∀ (v1 : Value) (ms1 : List Nat) (W1 : World), True := fun _ _ _ => trivial
    clear REST
    cases hb : P0 m
    · have HE := Lib.hid (show (m :: tlM k m).filter P0 = (tlM k m).filter P0 by rw [List.filter_cons_of_neg (by simp [hb])])
      rw [hb] at HC
      rw [HE.out]
      clear hb HE
      go_enter Tryz.func118, Tryz.ntmps118
      go_wp2_with fail
      refine HC.out.mono ?_
      rintro e w1 ⟨rfl, hB⟩
      have HI1 := Lib.hid (HI.out.low hB)
      clear hB HI x0 HC
      go_wp2_with fail
      go_loopw [7] (fun s7 wr => ∃ (n' : Nat) (v' : Value) (ms' : List Nat), s7 = .int .i64 n' ∧ n ≤ n' ∧ n' ≤ 8 ∧ FdI (.func (.func 151) #[] #[.pointer (some ⟨P, 0, none⟩)]) w v' ms' wr ∧ ms' ++ (tlM (8 - n') m).filter P0 = ms ++ (tlM k m).filter P0 ∧ ms'.length + (tlM (8 - n') m).length ≤ 1000) (fun s7 _ => 8 - (intOf s7).toNat)
      case atStart => exact ⟨n, _, _, rfl, Nat.le_refl _, by omega, HI1.out, by rw [show 8 - n = k by omega], by rw [show 8 - n = k by omega]; omega⟩
      case round =>
        obtain ⟨n', v', ms', rfl, hn1, hn2, hI, heq, hle⟩ := hrel
        have HQ := Lib.hid heq
        have HIr := Lib.hid hI
        have HLE := Lib.hid hle
        clear HI1 heq hI hle
        by_cases hlt : n' < 8
        · have HW := Lib.hid (fun w => with_any m n' hm hlt w)
          have HT := Lib.hid (tlM_step hlt m)
          have hle2 := HLE.out
          rw [HT.out] at hle2
          simp only [List.length_append, List.length_cons] at hle2
          have hx := fun W h => IH.out (8 - (n' + 1)) (by omega) (m ||| 2 ^ n') (n' + 1) v' ms' W (by omega) (with_lt m hm n' hlt) (by omega) h
          have ec : (((n' + 1 : Nat)) : Int) = (n' : Int) + 1 := by omega
          simp only [ec] at hx
          have HX := Lib.hid hx
          clear hx ec
          have xe := hp_cell HIr.out.be (j := 0) (by rfl)
          go_wp2_with fail
          refine wp_region_held_drew (S := (fun w' => w'.cell? ⟨w.heap.size + 1 + 1, 0, none⟩ = some (.func (.func 118) #[] #[.pointer (some ⟨w.heap.size, 0, none⟩), .pointer (some ⟨w.heap.size + 1, 0, none⟩), .pointer (some ⟨w.heap.size + 1 + 1, 0, none⟩)]))) (by kernel_rfl) ?_ (fun hHeld => ?_)
          · exact xe
          refine wpAnyH_take (i := 0) (oi := ?oiz00) (v := ?vz00) ?hiz00 (by kernel_rfl) (by kernel_rfl) (by kernel_rfl) ?hqz00 ?hyz00 hHeld ?restz00
          case hiz00 => exact rfl
          case hqz00 => exact fun _ _ _ h => h
          case hyz00 =>
            refine Or.inl ⟨by rfl, ?_⟩
            intro w hSw
            (try dsimp only at hSw)
            go_simp
            (try with_reducible rfl)
          try simp only [Act.put, List.getElem_toArray, List.getElem_cons_succ, List.getElem_cons_zero, List.setIfInBounds_toArray, List.set_cons_zero, List.set_cons_succ]
          refine wpAnyH_take (i := 1) (oi := ?oiz01) (v := ?vz01) ?hiz01 (by kernel_rfl) (by kernel_rfl) (by kernel_rfl) ?hqz01 ?hyz01 hHeld ?restz01
          case hiz01 => exact rfl
          case hqz01 => exact fun _ _ _ h => h
          case hyz01 =>
            refine Or.inl ⟨by rfl, ?_⟩
            intro w hSw
            (try dsimp only at hSw)
            go_simp
            (try with_reducible rfl)
          try simp only [Act.put, List.getElem_toArray, List.getElem_cons_succ, List.getElem_cons_zero, List.setIfInBounds_toArray, List.set_cons_zero, List.set_cons_succ]
          refine wpAnyH_take (i := 2) (oi := ?oiz02) (v := ?vz02) ?hiz02 (by kernel_rfl) (by kernel_rfl) (by kernel_rfl) ?hqz02 ?hyz02 hHeld ?restz02
          case hiz02 => exact rfl
          case hqz02 => exact fun _ _ _ h => h
          case hyz02 =>
            refine Or.inl ⟨by rfl, ?_⟩
            intro w hSw
            (try dsimp only at hSw)
            go_simp
            (try with_reducible rfl)
          try simp only [Act.put, List.getElem_toArray, List.getElem_cons_succ, List.getElem_cons_zero, List.setIfInBounds_toArray, List.set_cons_zero, List.set_cons_succ]
          refine wpAnyH_take (i := 4) (oi := ?oiz04) (v := ?vz04) ?hiz04 (by kernel_rfl) (by kernel_rfl) (by kernel_rfl) ?hqz04 ?hyz04 hHeld ?restz04
          case hiz04 => exact rfl
          case hqz04 => exact fun _ _ _ h => h
          case hyz04 =>
            refine Or.inl ⟨by rfl, ?_⟩
            intro w hSw
            (try dsimp only at hSw)
            go_simp
            (try with_reducible rfl)
          try simp only [Act.put, List.getElem_toArray, List.getElem_cons_succ, List.getElem_cons_zero, List.setIfInBounds_toArray, List.set_cons_zero, List.set_cons_succ]
          refine wpAnyH_take (i := 5) (oi := ?oiz05) (v := ?vz05) ?hiz05 (by kernel_rfl) (by kernel_rfl) (by kernel_rfl) ?hqz05 ?hyz05 hHeld ?restz05
          case hiz05 => exact rfl
          case hqz05 => exact fun _ _ _ h => h
          case hyz05 =>
            refine Or.inl ⟨by rfl, ?_⟩
            intro w hSw
            (try dsimp only at hSw)
            go_simp
            (try with_reducible rfl)
          try simp only [Act.put, List.getElem_toArray, List.getElem_cons_succ, List.getElem_cons_zero, List.setIfInBounds_toArray, List.set_cons_zero, List.set_cons_succ]
          refine wpAnyH_ready (rs := [3]) (by kernel_rfl) (by simp) ?_
          refine AllReadyH.cons (o := ?ooz03) ?hoz03 ?hkz03 AllReadyH.nil
          case hoz03 => exact rfl
          intro K hK
          go_simp
          refine (HW.out _).mono ?_
          rintro e wa ⟨rfl, rfl⟩
          refine hK.out _ _ ?_ (fun hHeld => ?_)
          · exact xe
          clear hK K
          try simp only [Act.put, List.getElem_toArray, List.getElem_cons_succ, List.getElem_cons_zero, List.setIfInBounds_toArray, List.set_cons_zero, List.set_cons_succ]
          refine wpAnyH_ready (rs := [6]) (by kernel_rfl) (by simp) ?_
          refine AllReadyH.cons (o := ?ooz06) ?hoz06 ?hkz06 AllReadyH.nil
          case hoz06 => exact rfl
          intro K hK
          go_simp
          rw [IntWalk.i64_in ((n' : Int) + 1) (by omega)]
          refine (HX.out _ HIr.out.drew).mono ?_
          rintro e wa ⟨rfl, vn, hIn⟩
          refine hK.out _ _ ?_ (fun hHeld => ?_)
          · exact hp_cell hIn.be (j := 0) (by rfl)
          clear hK K
          try simp only [Act.put, List.getElem_toArray, List.getElem_cons_succ, List.getElem_cons_zero, List.setIfInBounds_toArray, List.set_cons_zero, List.set_cons_succ]
          refine wpAnyH_done (by kernel_rfl) ?_ _
          have HN := Lib.hid hIn
          clear hIn HIr HX xe
          go_wp2_with fail
          go_roundw
          case rel =>
            refine ⟨n' + 1, vn, _, by go_num, by omega, by omega, HN.out, ?_, ?_⟩
            · rw [← HQ.out, HT.out, List.filter_append, List.append_assoc]
            · have h1 := List.length_filter_le P0 ((m ||| 2 ^ n') :: tlM (8 - (n' + 1)) (m ||| 2 ^ n'))
              simp only [List.length_append, List.length_cons] at h1 ⊢
              omega
          case measure => simp [intOf]; omega
        · obtain rfl : n' = 8 := by omega
          have hq := HQ.out
          rw [show tlM (8 - 8) m = [] from rfl] at hq
          simp only [List.filter_nil, List.append_nil] at hq
          have HQ2 := Lib.hid hq
          clear hq
          go_wp2_with fail
          go_end0
          exact ⟨rfl, v', by rw [← HQ2.out]; exact HIr.out⟩
    · have HE := Lib.hid (show (m :: tlM k m).filter P0 = m :: (tlM k m).filter P0 by rw [List.filter_cons_of_pos (by simp [hb])])
      rw [hb] at HC
      rw [HE.out, show ms ++ m :: (tlM k m).filter P0 = (ms ++ [m]) ++ (tlM k m).filter P0 by simp]
      clear hb HE
      go_enter Tryz.func118, Tryz.ntmps118
      go_wp2_with fail
      refine HC.out.mono ?_
      rintro e w1 ⟨rfl, hB⟩
      have HI1 := Lib.hid (HI.out.low hB)
      clear hB HI x0 HC
      have x1 := hp_cell HI1.out.bv (j := 0) (by rfl)
      have f1 := hp_free HI1.out.bv 0
      have hown := HI1.out.out
      go_wp2_with (at_builtin; refine wpList_append_own _ rfl (.tmp 11) (.tmp 13) 85 rfl (w.heap.size + 3) 88 i0 (.int .u64 0) 1 8 Tryz.underlying85 hi hz0 hz1 hz2 rfl (by decide) _ _ _ rfl (hown.alloc _) ⟨w1.heap.size, 0, none⟩ 1 1 [.int .u64 m] rfl rfl ?c1 ?c2 ?c3 ?c4 ?c5 ?_)
      case c1 => exact cell_one_new _ _ _
      case c2 => simp [Value.oneCell']
      case c3 => unfold maxLen; omega
      case c4 => omega
      case c5 => have := HI1.out.size; simp; omega
      intro v' w2 hown' hgrow _
      obtain ⟨va, vc, rfl⟩ := own_slice hown'
      have HI2 := Lib.hid (HI1.out.push hown' hgrow)
      have hsz := HI1.out.size
      have hsz2 : w1.heap.size < w2.heap.size := by have := hgrow.size; simp at this; omega
      have x2 : ∃ u, w2.cell? ⟨w.heap.size + 1, 0, none⟩ = some u := ⟨_, hp_cell (HI1.out.grow hgrow) (j := 0) (by rfl)⟩
      obtain ⟨u, x2⟩ := x2
      have f2 := hp_free (HI1.out.grow hgrow) 0
      have hl : (ms ++ [m]).length + (tlM k m).length ≤ 1000 := by simp; omega
      clear HI1 hown hown' hgrow x1 f1 hsz hsz2 hlen
      go_wp2_with fail
      go_loopw [7] (fun s7 wr => ∃ (n' : Nat) (v' : Value) (ms' : List Nat), s7 = .int .i64 n' ∧ n ≤ n' ∧ n' ≤ 8 ∧ FdI (.func (.func 151) #[] #[.pointer (some ⟨P, 0, none⟩)]) w v' ms' wr ∧ ms' ++ (tlM (8 - n') m).filter P0 = (ms ++ [m]) ++ (tlM k m).filter P0 ∧ ms'.length + (tlM (8 - n') m).length ≤ 1000) (fun s7 _ => 8 - (intOf s7).toNat)
      case atStart => exact ⟨n, _, _, rfl, Nat.le_refl _, by omega, HI2.out, by rw [show 8 - n = k by omega], by rw [show 8 - n = k by omega]; omega⟩
      case round =>
        obtain ⟨n', v', ms', rfl, hn1, hn2, hI, heq, hle⟩ := hrel
        have HQ := Lib.hid heq
        have HIr := Lib.hid hI
        have HLE := Lib.hid hle
        clear HI2 heq hI hle
        by_cases hlt : n' < 8
        · have HW := Lib.hid (fun w => with_any m n' hm hlt w)
          have HT := Lib.hid (tlM_step hlt m)
          have hle2 := HLE.out
          rw [HT.out] at hle2
          simp only [List.length_append, List.length_cons] at hle2
          have hx := fun W h => IH.out (8 - (n' + 1)) (by omega) (m ||| 2 ^ n') (n' + 1) v' ms' W (by omega) (with_lt m hm n' hlt) (by omega) h
          have ec : (((n' + 1 : Nat)) : Int) = (n' : Int) + 1 := by omega
          simp only [ec] at hx
          have HX := Lib.hid hx
          clear hx ec
          have xe := hp_cell HIr.out.be (j := 0) (by rfl)
          go_wp2_with fail
          refine wp_region_held_drew (S := (fun w' => w'.cell? ⟨w.heap.size + 1 + 1, 0, none⟩ = some (.func (.func 118) #[] #[.pointer (some ⟨w.heap.size, 0, none⟩), .pointer (some ⟨w.heap.size + 1, 0, none⟩), .pointer (some ⟨w.heap.size + 1 + 1, 0, none⟩)]))) (by kernel_rfl) ?_ (fun hHeld => ?_)
          · exact xe
          refine wpAnyH_take (i := 0) (oi := ?oiy00) (v := ?vy00) ?hiy00 (by kernel_rfl) (by kernel_rfl) (by kernel_rfl) ?hqy00 ?hyy00 hHeld ?resty00
          case hiy00 => exact rfl
          case hqy00 => exact fun _ _ _ h => h
          case hyy00 =>
            refine Or.inl ⟨by rfl, ?_⟩
            intro w hSw
            (try dsimp only at hSw)
            go_simp
            (try with_reducible rfl)
          try simp only [Act.put, List.getElem_toArray, List.getElem_cons_succ, List.getElem_cons_zero, List.setIfInBounds_toArray, List.set_cons_zero, List.set_cons_succ]
          refine wpAnyH_take (i := 1) (oi := ?oiy01) (v := ?vy01) ?hiy01 (by kernel_rfl) (by kernel_rfl) (by kernel_rfl) ?hqy01 ?hyy01 hHeld ?resty01
          case hiy01 => exact rfl
          case hqy01 => exact fun _ _ _ h => h
          case hyy01 =>
            refine Or.inl ⟨by rfl, ?_⟩
            intro w hSw
            (try dsimp only at hSw)
            go_simp
            (try with_reducible rfl)
          try simp only [Act.put, List.getElem_toArray, List.getElem_cons_succ, List.getElem_cons_zero, List.setIfInBounds_toArray, List.set_cons_zero, List.set_cons_succ]
          refine wpAnyH_take (i := 2) (oi := ?oiy02) (v := ?vy02) ?hiy02 (by kernel_rfl) (by kernel_rfl) (by kernel_rfl) ?hqy02 ?hyy02 hHeld ?resty02
          case hiy02 => exact rfl
          case hqy02 => exact fun _ _ _ h => h
          case hyy02 =>
            refine Or.inl ⟨by rfl, ?_⟩
            intro w hSw
            (try dsimp only at hSw)
            go_simp
            (try with_reducible rfl)
          try simp only [Act.put, List.getElem_toArray, List.getElem_cons_succ, List.getElem_cons_zero, List.setIfInBounds_toArray, List.set_cons_zero, List.set_cons_succ]
          refine wpAnyH_take (i := 4) (oi := ?oiy04) (v := ?vy04) ?hiy04 (by kernel_rfl) (by kernel_rfl) (by kernel_rfl) ?hqy04 ?hyy04 hHeld ?resty04
          case hiy04 => exact rfl
          case hqy04 => exact fun _ _ _ h => h
          case hyy04 =>
            refine Or.inl ⟨by rfl, ?_⟩
            intro w hSw
            (try dsimp only at hSw)
            go_simp
            (try with_reducible rfl)
          try simp only [Act.put, List.getElem_toArray, List.getElem_cons_succ, List.getElem_cons_zero, List.setIfInBounds_toArray, List.set_cons_zero, List.set_cons_succ]
          refine wpAnyH_take (i := 5) (oi := ?oiy05) (v := ?vy05) ?hiy05 (by kernel_rfl) (by kernel_rfl) (by kernel_rfl) ?hqy05 ?hyy05 hHeld ?resty05
          case hiy05 => exact rfl
          case hqy05 => exact fun _ _ _ h => h
          case hyy05 =>
            refine Or.inl ⟨by rfl, ?_⟩
            intro w hSw
            (try dsimp only at hSw)
            go_simp
            (try with_reducible rfl)
          try simp only [Act.put, List.getElem_toArray, List.getElem_cons_succ, List.getElem_cons_zero, List.setIfInBounds_toArray, List.set_cons_zero, List.set_cons_succ]
          refine wpAnyH_ready (rs := [3]) (by kernel_rfl) (by simp) ?_
          refine AllReadyH.cons (o := ?ooy03) ?hoy03 ?hky03 AllReadyH.nil
          case hoy03 => exact rfl
          intro K hK
          go_simp
          refine (HW.out _).mono ?_
          rintro e wa ⟨rfl, rfl⟩
          refine hK.out _ _ ?_ (fun hHeld => ?_)
          · exact xe
          clear hK K
          try simp only [Act.put, List.getElem_toArray, List.getElem_cons_succ, List.getElem_cons_zero, List.setIfInBounds_toArray, List.set_cons_zero, List.set_cons_succ]
          refine wpAnyH_ready (rs := [6]) (by kernel_rfl) (by simp) ?_
          refine AllReadyH.cons (o := ?ooy06) ?hoy06 ?hky06 AllReadyH.nil
          case hoy06 => exact rfl
          intro K hK
          go_simp
          rw [IntWalk.i64_in ((n' : Int) + 1) (by omega)]
          refine (HX.out _ HIr.out.drew).mono ?_
          rintro e wa ⟨rfl, vn, hIn⟩
          refine hK.out _ _ ?_ (fun hHeld => ?_)
          · exact hp_cell hIn.be (j := 0) (by rfl)
          clear hK K
          try simp only [Act.put, List.getElem_toArray, List.getElem_cons_succ, List.getElem_cons_zero, List.setIfInBounds_toArray, List.set_cons_zero, List.set_cons_succ]
          refine wpAnyH_done (by kernel_rfl) ?_ _
          have HN := Lib.hid hIn
          clear hIn HIr HX xe
          go_wp2_with fail
          go_roundw
          case rel =>
            refine ⟨n' + 1, vn, _, by go_num, by omega, by omega, HN.out, ?_, ?_⟩
            · rw [← HQ.out, HT.out, List.filter_append, List.append_assoc]
            · have h1 := List.length_filter_le P0 ((m ||| 2 ^ n') :: tlM (8 - (n' + 1)) (m ||| 2 ^ n'))
              simp only [List.length_append, List.length_cons] at h1 ⊢
              omega
          case measure => simp [intOf]; omega
        · obtain rfl : n' = 8 := by omega
          have hq := HQ.out
          rw [show tlM (8 - 8) m = [] from rfl] at hq
          simp only [List.filter_nil, List.append_nil] at hq
          have HQ2 := Lib.hid hq
          clear hq
          go_wp2_with fail
          go_end0
          exact ⟨rfl, v', by rw [← HQ2.out]; exact HIr.out⟩

set_option maxRecDepth 100000 in
set_option maxHeartbeats 4000000 in
theorem find_B (P0 : Nat → Bool) (P : Nat) (w : World)
    (hP : ∀ (m : Nat) (W : World), m < 256 → Below w.heap.size w W → Calls Tryz.prog 151 #[.int .u64 m, .pointer (some ⟨P, 0, none⟩)] W fun e W' => e = .returned (.bool (P0 m)) ∧ Below W.heap.size W W') :
    Calls Tryz.prog 60 #[.func (.func 151) #[] #[.pointer (some ⟨P, 0, none⟩)]] w (GivesMsk (enumM.filter P0) w) := by
  have HX := Lib.hid (fun W h => extend_B P0 P w hP 8 0 0 (.slice none 0 0) [] W rfl (by decide) (by decide) h)
  clear hP
  go_enter Tryz.func60, Tryz.ntmps60
  go_wp2_with fail
  have hI0 : FdI (.func (.func 151) #[] #[.pointer (some ⟨P, 0, none⟩)]) w (.slice none 0 0) [] (((w.alloc (.cells #[.func (.func 151) #[] #[.pointer (some ⟨P, 0, none⟩)]] 92)).alloc (.cells #[.slice none 0 0] 85)).alloc (.cells #[.func (.func 118) #[] #[.pointer (some ⟨w.heap.size, 0, none⟩), .pointer (some ⟨w.heap.size + 1, 0, none⟩), .pointer (some ⟨w.heap.size + 1 + 1, 0, none⟩)]] 142)) :=
    ⟨hp_alloc (hp_alloc (hp_new rfl)), hp_alloc (hp_new (by simp)), hp_new (by simp), World.ownsRow_nil _ _ _ _, (((Below.refl _ _).alloc (Nat.le_refl _) _).alloc (by simp) _).alloc (by simp; omega) _⟩
  refine (HX.out _ hI0).mono ?_
  rintro e w1 ⟨rfl, v', hI⟩
  have e1 : [] ++ (0 :: tlM 8 0).filter P0 = enumM.filter P0 := rfl
  rw [e1] at hI
  obtain ⟨va, vc, rfl⟩ := own_slice hI.out
  have x1 := hp_cell hI.bv (j := 0) (by rfl)
  have HM := Lib.hid (msk_of_own hI.out)
  have HB := Lib.hid hI.below
  clear hI hI0 HX e1
  go_wp2_with fail
  go_ret
  exact ⟨va, vc, rfl, HM.out.1, HB.out⟩

end Go.Proofs.YtigaklppdlknkaaGreat

/- Blocker and Hits of blame: contracts. -/
set_option linter.unusedVariables false
set_option linter.unusedSimpArgs false
namespace Go.Proofs.YtigaklppdlknkaaGreat
open Go.RowKit Tinker

set_option maxRecDepth 100000 in
set_option maxHeartbeats 1000000 in
theorem clos_blocker (w0 : World) (P : Nat) (a : Option Addr) (cap : Nat) (ms : List Nat) (hP : w0.cell? ⟨P, 0, none⟩ = some (.slice a ms.length cap)) (hPl : P < w0.heap.size) (hf : MskAt w0 a ms) (hv : ∀ x ∈ ms, x < 256) (hl : ms.length ≤ 1000) (m : Nat) (W : World) (hm : m < 256) (hB : Below w0.heap.size w0 W) :
    Calls Tryz.prog 151 #[.int .u64 m, .pointer (some ⟨P, 0, none⟩)] W fun e w' => e = .returned (.bool (hitsM ms m && needM ms m)) ∧ Below W.heap.size W w' := by
  have hc := (hB.cell (p := ⟨P, 0, none⟩) hPl).trans hP
  have hPW : P < W.heap.size := Nat.lt_of_lt_of_le hPl hB.size
  have HF := Lib.hid (hf.below hB (Nat.le_refl _))
  have H1 := Lib.hid (hits_any a cap ms m hm W HF.out hv hl)
  have H2 := Lib.hid (fun w h => needsAll_any a cap ms m hm w h hv hl)
  generalize hitsM ms m = V at H1 ⊢
  generalize needM ms m = U at H2 ⊢
  clear hf hP hB hv
  cases V
  · go_enter Tryz.func151, Tryz.ntmps151
    go_wp2_with fail
    refine H1.out.mono ?_
    rintro e w1 ⟨rfl, hB⟩
    go_wp2_with fail
    go_ret
    exact ⟨rfl, hB⟩
  · go_enter Tryz.func151, Tryz.ntmps151
    go_wp2_with fail
    refine H1.out.mono ?_
    rintro e w1 ⟨rfl, hB⟩
    have hc1 := (hB.cell (p := ⟨P, 0, none⟩) hPW).trans hc
    have HB := Lib.hid hB
    clear hB hc
    go_wp2_with fail
    refine (H2.out _ (HF.out.below HB.out (Nat.le_refl _))).mono ?_
    rintro e w2 ⟨rfl, hB2⟩
    go_wp2_with fail
    go_ret
    exact ⟨rfl, HB.out.trans (hB2.mono HB.out.size)⟩

set_option maxRecDepth 100000 in
set_option maxHeartbeats 1000000 in
theorem blocker_any (a : Option Addr) (cap : Nat) (ms : List Nat) (w : World) (hf : MskAt w a ms) (hv : ∀ x ∈ ms, x < 256) (hl : ms.length ≤ 1000) :
    Calls Tryz.prog 98 #[.slice a ms.length cap] w (GivesMsk (blkM ms) w) := by
  have hb := ((Below.refl w.heap.size w).alloc (Nat.le_refl _) (.cells #[.slice a ms.length cap] 85))
  have hx : (w.alloc (.cells #[.slice a ms.length cap] 85)).heap[w.heap.size]? = some (.cells #[.slice a ms.length cap] 85 (0, 0)) := hp_new rfl
  have HF := Lib.hid (find_B (fun m => hitsM ms m && needM ms m) w.heap.size (w.alloc (.cells #[.slice a ms.length cap] 85)) (fun m W hm hB => clos_blocker _ w.heap.size a cap ms (hp_cell hx rfl) (hp_lt hx) (hf.below hb (Nat.le_refl _)) hv hl m W hm hB))
  have HB := Lib.hid hb
  clear hb hx hf hv
  go_enter Tryz.func98, Tryz.ntmps98
  go_wp2_with fail
  refine HF.out.mono ?_
  rintro e w1 ⟨a1, c1, rfl, h1, h2⟩
  have H1 := Lib.hid h1
  have H2 := Lib.hid h2
  clear h1 h2 HF
  go_wp2_with fail
  go_ret
  exact ⟨a1, c1, rfl, H1.out, HB.out.trans (H2.out.mono HB.out.size)⟩

/-- What Blocker answers. -/
def blkL (f : List (List Int)) : List (List Int) := if vfam f = 0 then (blkM (fmM f)).map numsM else []
theorem blkL_ok {f : List (List Int)} (h : vfam f = 0) : blkL f = (blkM (fmM f)).map numsM := by unfold blkL; rw [if_pos h]
theorem blkL_no {f : List (List Int)} (h : vfam f ≠ 0) : blkL f = [] := by unfold blkL; rw [if_neg h]
theorem GivesMsk.wide {ms : List Nat} {w w1 w2 : World} {e : Ending} (h : GivesMsk ms w1 e w2) (hB : Below w.heap.size w w1) : GivesMsk ms w e w2 := by
  obtain ⟨a, c, h1, h2, h3⟩ := h
  exact ⟨a, c, h1, h2, hB.trans (h3.mono hB.size)⟩

set_option maxRecDepth 100000 in
set_option maxHeartbeats 1000000 in
theorem Blocker_any (a : Option Addr) (cap : Nat) (f : List (List Int)) (w : World) (hf : RowsAt w a f) (hm : ∀ z ∈ f, z.length ≤ 1000) :
    Calls Tryz.prog 40 #[.slice a f.length cap] w (GivesRowsBE (blkL f) (vfam f) w) := by
  have HV := Lib.hid (validateF_any a cap f w hf hm)
  by_cases hz : vfam f = 0
  · obtain ⟨h70, hs⟩ := vfam_ok hz
    have H1 := Lib.hid (fun w h => masksOf_any a cap f w h hs (by omega))
    have H2 := Lib.hid (fun b c w h => blocker_any b c (fmM f) w h (fmM_lt hs) (by rw [fmM_len]; omega))
    have H3 := Lib.hid (fun b c w h => family_any b c (blkM (fmM f)) w h (fun m hm => blk_lt hm) (by have := blk_len (fmM f); omega))
    rw [blkL_ok hz, hz]
    rw [hz] at HV
    generalize blkM (fmM f) = Z at H2 H3 ⊢
    have HR := Lib.hid hf
    clear hz hs hf hm
    go_enter Tryz.func40, Tryz.ntmps40
    go_wp2_with fail
    refine HV.out.mono ?_
    rintro e w1 ⟨rfl, hB⟩
    have HB := Lib.hid hB
    clear hB
    go_wp2_with fail
    refine (H1.out _ (HR.out.below HB.out (Nat.le_refl _))).mono ?_
    rintro e w2 ⟨a2, c2, rfl, h2, hB2⟩
    have HM2 := Lib.hid h2
    have HB2 := Lib.hid (HB.out.trans (hB2.mono HB.out.size))
    clear h2 hB2
    go_wp2_with fail
    refine (H2.out _ _ _ HM2.out).mono ?_
    rintro e w3 ⟨a3, c3, rfl, h3, hB3⟩
    have HM3 := Lib.hid h3
    have HB3 := Lib.hid (HB2.out.trans (hB3.mono HB2.out.size))
    clear h3 hB3
    go_wp2_with fail
    refine (H3.out _ _ _ HM3.out).mono ?_
    rintro e w4 ⟨a4, c4, rfl, h4, hB4⟩
    have HM4 := Lib.hid (h4.wide HB3.out.size)
    have HB4 := Lib.hid (HB3.out.trans (hB4.mono HB3.out.size))
    clear h4 hB4
    go_wp2_with fail
    go_ret2
    exact ⟨a4, c4, by rw [List.length_map]; rfl, HM4.out, HB4.out⟩
  · rw [blkL_no hz]
    generalize vfam f = c at HV hz
    have hz1 : (c != 0) = true := by simpa using hz
    have hz2 : (c == 0) = false := by simpa using hz
    clear hz hf hm
    go_enter Tryz.func40, Tryz.ntmps40
    go_wp2_with fail
    refine HV.out.mono ?_
    rintro e w1 ⟨rfl, hB⟩
    go_wp2_with fail
    go_ret2
    exact givesRowsBE_nil hB

/-- What Hits answers. -/
def hitC (f : List (List Int)) (s : List Int) : Int := if vfam f = 0 then (if setB s = true then 0 else 1) else vfam f
def hitV (f : List (List Int)) (s : List Int) : Bool := if vfam f = 0 then (if setB s = true then hitsM (fmM f) (maskM s) else false) else false

set_option maxRecDepth 100000 in
set_option maxHeartbeats 1000000 in
theorem Hits_any (a b : Option Addr) (cap cb : Nat) (f : List (List Int)) (s : List Int) (w : World) (hf : RowsAt w a f) (hs : IntsAt w b s) (hm : ∀ z ∈ f, z.length ≤ 1000) (hm2 : s.length ≤ 1000) :
    Calls Tryz.prog 43 #[.slice a f.length cap, .slice b s.length cb] w fun e w' => e = .returned (.tuple #[.bool (hitV f s), .int .i64 (hitC f s)]) ∧ Below w.heap.size w w' := by
  have HV := Lib.hid (validateF_any a cap f w hf hm)
  have HS := Lib.hid (fun w h => isValid_any b cb s w h hm2)
  have HR := Lib.hid hf
  have HI := Lib.hid hs
  unfold hitV hitC
  by_cases hz : vfam f = 0
  · rw [if_pos hz, if_pos hz]
    obtain ⟨h70, hs2⟩ := vfam_ok hz
    rw [hz] at HV
    cases hv : setB s
    · rw [hv] at HS
      rw [if_neg (by decide), if_neg (by decide)]
      clear hf hs hz hv hs2
      go_enter Tryz.func43, Tryz.ntmps43
      go_wp2_with fail
      refine HV.out.mono ?_
      rintro e w1 ⟨rfl, hB⟩
      go_wp2_with fail
      refine (HS.out _ (HI.out.below hB (Nat.le_refl _))).mono ?_
      rintro e w2 ⟨rfl, hB2⟩
      go_wp2_with fail
      go_ret2
      exact ⟨rfl, hB.trans (hB2.mono hB.size)⟩
    · rw [hv] at HS
      rw [if_pos rfl, if_pos rfl]
      have H1 := Lib.hid (fun w h => masksOf_any a cap f w h hs2 (by omega))
      have H2 := Lib.hid (fun w h => maskOf_any b cb s w h hv)
      have H3 := Lib.hid (fun b c w h => hits_any b c (fmM f) (maskM s) (maskM_lt hv) w h (fmM_lt hs2) (by rw [fmM_len]; omega))
      generalize hitsM (fmM f) (maskM s) = V at H3 ⊢
      clear hf hs hz hv hs2
      go_enter Tryz.func43, Tryz.ntmps43
      go_wp2_with fail
      refine HV.out.mono ?_
      rintro e w1 ⟨rfl, hB⟩
      have HB := Lib.hid hB
      clear hB
      go_wp2_with fail
      refine (HS.out _ (HI.out.below HB.out (Nat.le_refl _))).mono ?_
      rintro e w2 ⟨rfl, hB2⟩
      have HB2 := Lib.hid (HB.out.trans (hB2.mono HB.out.size))
      clear hB2
      go_wp2_with fail
      refine (H1.out _ (HR.out.below HB2.out (Nat.le_refl _))).mono ?_
      rintro e w3 ⟨a3, c3, rfl, h3, hB3⟩
      have HM3 := Lib.hid h3
      have HB3 := Lib.hid (HB2.out.trans (hB3.mono HB2.out.size))
      clear h3 hB3
      go_wp2_with fail
      refine (H2.out _ (HI.out.below HB3.out (Nat.le_refl _))).mono ?_
      rintro e w4 ⟨rfl, rfl⟩
      go_wp2_with fail
      refine (H3.out _ _ _ HM3.out).mono ?_
      rintro e w4 ⟨rfl, hB4⟩
      go_wp2_with fail
      go_ret2
      exact ⟨rfl, HB3.out.trans (hB4.mono HB3.out.size)⟩
  · rw [if_neg hz, if_neg hz]
    generalize vfam f = c at HV hz
    have hz1 : (c != 0) = true := by simpa using hz
    have hz2 : (c == 0) = false := by simpa using hz
    clear hz hf hm hs
    go_enter Tryz.func43, Tryz.ntmps43
    go_wp2_with fail
    refine HV.out.mono ?_
    rintro e w1 ⟨rfl, hB⟩
    go_wp2_with fail
    go_ret2
    exact ⟨rfl, hB⟩

/-- Long sets. -/
def longF (f : List (List Int)) : Bool := decide (100 < f.length) || f.any (fun z => decide (100 < z.length))
theorem longF_no {f : List (List Int)} (h : longF f = false) : f.length ≤ 100 ∧ ∀ z ∈ f, z.length ≤ 1000 := by
  unfold longF at h
  rw [Bool.or_eq_false_iff] at h
  obtain ⟨h1, h2⟩ := h
  refine ⟨by simpa using h1, fun z hz => ?_⟩
  rw [List.any_eq_false] at h2
  have := h2 z hz
  simp at this
  omega
end Go.Proofs.YtigaklppdlknkaaGreat

/- Programs and tests of blame: what is valid, what fails: contracts. -/
set_option linter.unusedVariables false
set_option linter.unusedSimpArgs false
namespace Go.Proofs.YtigaklppdlknkaaGreat
open Go.RowKit Tinker

set_option maxRecDepth 100000 in
set_option maxHeartbeats 1000000 in
theorem validateTestsB_any (a g : Option Addr) (ca cap : Nat) (ps : List L) (ts : List T) (w : World) (hp : LinesAt w a ps) (hts : TestsAt w g ts) (hm : ts.length ≤ 1000) (hml : ∀ t ∈ ts, t.inn.length ≤ 1000) :
    Calls Tryz.prog 56 #[.slice a ps.length ca, .slice g ts.length cap] w fun e w' => e = .returned (.int .i64 (vpt ps ts)) ∧ Below w.heap.size w w' := by
  go_enter Tryz.func56, Tryz.ntmps56
  go_wp2_with fail
  refine (validate_any a ca ps _ hp).mono ?_
  rintro e w1 ⟨rfl, hB1⟩
  go_wp2_with fail
  refine (validateTests_C g cap ts _ (hts.below hB1 (Nat.le_refl _)) hm hml).mono ?_
  rintro e w2 ⟨rfl, hB2⟩
  have hB3 := hB1.trans (hB2.mono hB1.size)
  go_wp2_with fail
  refine (firstError_two _ _ _ _).mono ?_
  rintro e w3 ⟨rfl, rfl⟩
  go_wp2_with fail
  go_ret
  exact ⟨rfl, hB3.trans ((Below.refl _ _).alloc hB3.size _)⟩

/-- The errors of lines that are to be forced. -/
def awB (p : List L) (ls : List Int) : Bool := ls.all fun n => wrB (p.getD n.toNat ⟨0, 0, 0, 0⟩)
def lnC (p : List L) (ls : List Int) : Int :=
  if isSetB ls = false then 1 else if allBtw ls 0 ((p.length : Int) - 1) = false then 4 else if 2 < ls.length then 3 else if awB p ls = false then 6 else 0
theorem lnC_1 {p : List L} {ls : List Int} (h1 : isSetB ls = false) : lnC p ls = 1 := by unfold lnC; rw [if_pos h1]
theorem lnC_4 {p : List L} {ls : List Int} (h1 : isSetB ls = true) (h2 : allBtw ls 0 ((p.length : Int) - 1) = false) : lnC p ls = 4 := by unfold lnC; rw [if_neg (by simp [h1]), if_pos h2]
theorem lnC_3 {p : List L} {ls : List Int} (h1 : isSetB ls = true) (h2 : allBtw ls 0 ((p.length : Int) - 1) = true) (h3 : 2 < ls.length) : lnC p ls = 3 := by unfold lnC; rw [if_neg (by simp [h1]), if_neg (by simp [h2]), if_pos h3]
theorem lnC_6 {p : List L} {ls : List Int} (h1 : isSetB ls = true) (h2 : allBtw ls 0 ((p.length : Int) - 1) = true) (h3 : ls.length ≤ 2) (h4 : awB p ls = false) : lnC p ls = 6 := by unfold lnC; rw [if_neg (by simp [h1]), if_neg (by simp [h2]), if_neg (by omega), if_pos h4]
theorem lnC_0 {p : List L} {ls : List Int} (h1 : isSetB ls = true) (h2 : allBtw ls 0 ((p.length : Int) - 1) = true) (h3 : ls.length ≤ 2) (h4 : awB p ls = true) : lnC p ls = 0 := by unfold lnC; rw [if_neg (by simp [h1]), if_neg (by simp [h2]), if_neg (by omega), if_neg (by simp [h4])]
theorem lnC_ok {p : List L} {ls : List Int} (h : lnC p ls = 0) : isSetB ls = true ∧ allBtw ls 0 ((p.length : Int) - 1) = true ∧ ls.length ≤ 2 ∧ awB p ls = true := by
  unfold lnC at h
  split at h
  · cases h
  · split at h
    · cases h
    · split at h
      · cases h
      · split at h
        · cases h
        · rename_i h1 h2 h3 h4
          exact ⟨by simpa using h1, by simpa using h2, by omega, by simpa using h4⟩

set_option maxRecDepth 100000 in
set_option maxHeartbeats 2000000 in
theorem validateLines_any (a b : Option Addr) (ca cb : Nat) (ps : List L) (ls : List Int) (w : World) (hp : LinesAt w a ps) (hl : IntsAt w b ls) (hm : ls.length ≤ 1000) (hm2 : ps.length ≤ 1000) :
    Calls Tryz.prog 63 #[.slice a ps.length ca, .slice b ls.length cb] w fun e w' => e = .returned (.int .i64 (lnC ps ls)) ∧ Below w.heap.size w w' := by
  have H1 := Lib.hid (kIsSet_any b cb ls w hl hm)
  have H2 := Lib.hid (fun w h => areBetween_any b cb ls 0 ((ps.length : Int) - 1) w h (by omega))
  cases h1 : isSetB ls
  · rw [lnC_1 h1]
    rw [h1] at H1
    clear hp hl h1
    go_enter Tryz.func63, Tryz.ntmps63
    go_wp2_with fail
    refine H1.out.mono ?_
    rintro e w1 ⟨rfl, hB⟩
    go_wp2_with fail
    go_ret
    exact ⟨rfl, hB⟩
  · have HH1 := Lib.hid h1
    rw [h1] at H1
    cases h2 : allBtw ls 0 ((ps.length : Int) - 1)
    · rw [lnC_4 h1 h2]
      rw [h2] at H2
      clear hp h1 h2
      go_enter Tryz.func63, Tryz.ntmps63
      go_wp2_with fail
      refine H1.out.mono ?_
      rintro e w1 ⟨rfl, hB⟩
      go_wp2_with fail
      refine (H2.out _ (hl.below hB (Nat.le_refl _))).mono ?_
      rintro e w2 ⟨rfl, rfl⟩
      go_wp2_with fail
      go_ret
      exact ⟨rfl, hB⟩
    · have HH2 := Lib.hid h2
      rw [h2] at H2
      by_cases h3 : 2 < ls.length
      · rw [lnC_3 h1 h2 h3]
        clear hp h1 h2
        go_enter Tryz.func63, Tryz.ntmps63
        go_wp2_with fail
        refine H1.out.mono ?_
        rintro e w1 ⟨rfl, hB⟩
        go_wp2_with fail
        refine (H2.out _ (hl.below hB (Nat.le_refl _))).mono ?_
        rintro e w2 ⟨rfl, rfl⟩
        go_wp2_with fail
        go_ret
        exact ⟨rfl, hB⟩
      · have h3' : ls.length ≤ 2 := by omega
        clear h1 h2
        go_enter Tryz.func63, Tryz.ntmps63
        go_wp2_with fail
        refine H1.out.mono ?_
        rintro e w1 ⟨rfl, hB⟩
        have HB := Lib.hid hB
        clear hB
        go_wp2_with fail
        refine (H2.out _ (hl.below HB.out (Nat.le_refl _))).mono ?_
        rintro e w2 ⟨rfl, rfl⟩
        go_wp2_with fail
        go_loopw [27] (fun s27 wr => ∃ k : Nat, k ≤ ls.length ∧ s27 = .int .i64 k ∧ (ls.take k).all (fun n => wrB (ps.getD n.toNat ⟨0, 0, 0, 0⟩)) = true ∧ Below w.heap.size w wr) (fun s27 _ => ls.length - (intOf s27).toNat)
        case atStart => exact ⟨0, Nat.zero_le _, rfl, by simp, HB.out⟩
        case round =>
          obtain ⟨k, hk, rfl, hall, hBr⟩ := hrel
          have HA := Lib.hid hall
          have HBR := Lib.hid hBr
          clear hall hBr
          by_cases hlt : k < ls.length
          · obtain ⟨b1, off, x, rfl, hlb, hx, h0⟩ := (hl.below HBR.out (Nat.le_refl _)).at_ hlt
            have HX := Lib.hid hx
            obtain ⟨q1, q2⟩ := allBtw_at HH2.out (mem_of_get hx)
            obtain ⟨n, rfl⟩ : ∃ n : Nat, x = n := ⟨x.toNat, by omega⟩
            obtain ⟨b2, off2, l, rfl, hlb2, hl2, c0, c1, c2, c3⟩ := (hp.below HBR.out (Nat.le_refl _)).at_ (show n < ps.length by omega)
            have HW := Lib.hid (fun w => writes_A l w)
            have HE := Lib.hid (show wrB (ps.getD (n : Int).toNat ⟨0, 0, 0, 0⟩) = wrB l by rw [show (n : Int).toNat = n by omega, getD_of_get hl2])
            have hnn : n < ps.length := by omega
            unfold lv at HW
            clear hx hl hp hl2 H1 H2
            cases hv : wrB l
            · have HV := Lib.hid (HE.out.trans hv)
              rw [hv] at HW
              clear hv
              go_wp2_with fail
              refine (HW.out _).mono ?_
              rintro e w2 ⟨rfl, hB2⟩
              go_wp2_with fail
              go_ret
              exact ⟨ret_int (lnC_6 HH1.out HH2.out h3' (by unfold awB; exact all_not HX.out HV.out)).symm, HBR.out.trans (hB2.mono HBR.out.size)⟩
            · have HV := Lib.hid (HE.out.trans hv)
              rw [hv] at HW
              clear hv
              go_wp2_with fail
              refine (HW.out _).mono ?_
              rintro e w2 ⟨rfl, hB2⟩
              go_wp2_with fail
              go_roundw
              case rel => exact ⟨k + 1, by omega, by go_num, all_snoc HA.out HX.out HV.out, HBR.out.trans (hB2.mono HBR.out.size)⟩
              case measure => simp [intOf]; omega
          · have HZ := Lib.hid (all_whole HA.out hlt)
            go_wp2_with fail
            go_ret
            exact ⟨ret_int (lnC_0 HH1.out HH2.out h3' (by unfold awB; exact HZ.out)).symm, HBR.out⟩

/-- The failing tests. -/
def tgD (ts : List T) (j : Int) : T := ts.getD j.toNat ⟨[], 0, 0⟩
def fT (ps : List L) (ts : List T) : List T := (pL false ps ts).map (tgD ts)
theorem pL_place {b : Bool} {ps : List L} {ts : List T} {z : Int} (h : z ∈ pL b ps ts) : ∃ j : Nat, z = (j : Int) ∧ j < ts.length := by
  unfold pL at h
  split at h
  · unfold plc plcTo at h
    simp only [List.mem_map, List.mem_filter, List.mem_range, List.length_map] at h
    obtain ⟨j, ⟨h1, _⟩, e⟩ := h
    exact ⟨j, e.symm, h1⟩
  · simp at h
theorem pL_len (b : Bool) (ps : List L) (ts : List T) : (pL b ps ts).length ≤ ts.length := by
  unfold pL
  split
  · have := plcTo_length (ts.map fun t => pas ps t == b) (ts.map fun t => pas ps t == b).length
    simpa [plc] using this
  · simp
theorem tgD_at {ts : List T} {j : Nat} {t : T} (h : ts[j]? = some t) : tgD ts (j : Int) = t := by
  unfold tgD
  rw [show ((j : Int)).toNat = j by omega, getD_of_get h]
theorem fT_mem {ps : List L} {ts : List T} {t : T} (h : t ∈ fT ps ts) : t ∈ ts := by
  obtain ⟨z, hz, rfl⟩ := List.mem_map.1 h
  obtain ⟨j, rfl, hj⟩ := pL_place hz
  obtain ⟨t, ht⟩ := get_of_lt hj
  rw [tgD_at ht]
  exact mem_of_get ht
theorem info_test3 : (Tryz.prog.info? 60).map (fun i => (i.zero, i.size, i.bytes)) = some (some (.agg #[.slice none 0 0, .int .i64 0, .int .i64 0]), 3, 40) := by kernel_rfl
theorem cell_three_new (w : World) (u v x : Value) (t : TypeId) : ∀ j y, [u, v, x][j]? = some y → (w.alloc (.cells #[u, v, x] t)).cell? ((⟨w.heap.size, 0, none⟩ : Addr).add j) = some y := by
  intro j y h
  match j, h with
  | 0, h => exact hp_cell (hp_new rfl) (by simpa using h)
  | 1, h => exact hp_cell (hp_new rfl) (by simpa using h)
  | 2, h => exact hp_cell (hp_new rfl) (by simpa using h)
  | j + 3, h => simp at h
/-- The cells of tests whose states are old. -/
def TsC (w : World) (ts : List T) (xs : List Value) : Prop :=
  ∀ (k : Nat) (t : T), ts[k]? = some t → ∃ (a : Option Addr) (c : Nat), xs[k * 3]? = some (.slice a t.inn.length c) ∧ xs[k * 3 + 1]? = some (.int .i64 t.out) ∧ xs[k * 3 + 2]? = some (.int .i64 t.want) ∧ IntsAt w a t.inn
theorem TsC.push {w : World} {ts : List T} {xs : List Value} (h : TsC w ts xs) (hx : xs.length = ts.length * 3) {t : T} {a : Option Addr} {c : Nat} (hi : IntsAt w a t.inn) :
    TsC w (ts ++ [t]) (xs ++ [.slice a t.inn.length c, .int .i64 t.out, .int .i64 t.want]) := by
  intro k u hk
  rcases Nat.lt_or_ge k ts.length with hlt | hge
  · rw [List.getElem?_append_left hlt] at hk
    obtain ⟨a', c', h0, h1, h2, h3⟩ := h k u hk
    exact ⟨a', c', by rw [List.getElem?_append_left (by omega)]; exact h0, by rw [List.getElem?_append_left (by omega)]; exact h1, by rw [List.getElem?_append_left (by omega)]; exact h2, h3⟩
  · have hk0 : k = ts.length := by
      have := (List.getElem?_eq_some_iff.1 hk).1
      simp at this; omega
    subst hk0
    simp at hk
    subst hk
    refine ⟨a, c, ?_, ?_, ?_, hi⟩
    · rw [List.getElem?_append_right (by omega), hx]; simp
    · rw [List.getElem?_append_right (by omega), hx, show ts.length * 3 + 1 - ts.length * 3 = 1 by omega]; rfl
    · rw [List.getElem?_append_right (by omega), hx, show ts.length * 3 + 2 - ts.length * 3 = 2 by omega]; rfl
/-- Tests in memory of the call's own. -/
def GivesTs (ts : List T) (w : World) (e : Ending) (w' : World) : Prop :=
  ∃ a c, e = .returned (.slice a ts.length c) ∧ TestsAt w' a ts ∧ Below w.heap.size w w'
theorem ts_of_own {w W : World} {base : Nat} {a : Option Addr} {n c : Nat} {ts : List T} {xs : List Value} (h : W.ownsRow base 60 3 (.slice a n c) n xs) (hc : TsC w ts xs) (hn : ts.length = n) (hB : Below w.heap.size w W) : TestsAt W a ts := by
  rcases Nat.eq_zero_or_pos n with h0 | h0
  · exact .inl (List.eq_nil_of_length_eq_zero (by omega))
  · obtain ⟨g, e'⟩ := own_form h h0
    subst e'
    refine .inr ⟨g, 0, rfl, own_lt h, fun j t hj => ?_⟩
    obtain ⟨a', c', h0, h1, h2, h3⟩ := hc j t hj
    exact ⟨a', c', by rw [Nat.zero_add]; exact own_cell h h0, by rw [Nat.zero_add]; exact own_cell h h1, by rw [Nat.zero_add]; exact own_cell h h2, h3.below hB (Nat.le_refl _)⟩

set_option maxRecDepth 100000 in
set_option maxHeartbeats 2000000 in
theorem failingT_any (a g : Option Addr) (ca cap : Nat) (ps : List L) (ts : List T) (w : World) (hp : LinesAt w a ps) (hts : TestsAt w g ts) (hm : ts.length ≤ 1000) (hml : ∀ t ∈ ts, t.inn.length ≤ 1000) :
    Calls Tryz.prog 58 #[.slice a ps.length ca, .slice g ts.length cap] w (GivesTs (fT ps ts) w) := by
  obtain ⟨i0, hi, hz0, hz1, hz2⟩ := info_parts info_test3
  have HF := Lib.hid (failing_any a g ca cap ps ts w hp hts hm hml)
  have HPL := Lib.hid (fun z h => pL_place (b := false) (ps := ps) (ts := ts) (z := z) h)
  have hpl := pL_len false ps ts
  have HE := Lib.hid (show fT ps ts = (pL false ps ts).map (tgD ts) from rfl)
  rw [HE.out]
  generalize pL false ps ts = zs at HF HPL HE hpl ⊢
  go_enter Tryz.func58, Tryz.ntmps58
  go_wp2_with fail
  refine HF.out.mono ?_
  rintro e w1 ⟨a1, c1, rfl, ho, hB⟩
  have HI := Lib.hid (ints_of_own ho).1
  have HB := Lib.hid hB
  clear ho hB
  go_wp2_with fail
  go_loopw [5, 18] (fun s5 s18 wr => ∃ (k : Nat) (xs : List Value), k ≤ zs.length ∧ s18 = .int .i64 k ∧ wr.ownsRow w1.heap.size 60 3 s5 k xs ∧ TsC w1 ((zs.take k).map (tgD ts)) xs ∧ Below w1.heap.size w1 wr) (fun _ s18 _ => zs.length - (intOf s18).toNat)
  case atStart => exact ⟨0, [], Nat.zero_le _, rfl, World.ownsRow_nil _ _ _ _, fun k t h => by simp at h, Below.refl _ _⟩
  case round =>
    obtain ⟨k, xs, hk, rfl, hown, hTC, hB2⟩ := hrel
    by_cases hlt : k < zs.length
    · obtain ⟨b, off, z, rfl, hlb, hz, h0⟩ := (HI.out.below hB2 (Nat.le_refl _)).at_ hlt
      obtain ⟨j, rfl, hj⟩ := HPL.out z (mem_of_get hz)
      have hBB := HB.out.trans (hB2.mono HB.out.size)
      obtain ⟨tb, toff, t, ta, tc, rfl, htlb, ht, t0, t1, t2, _⟩ := (hts.below hBB (Nat.le_refl _)).at_ hj
      obtain ⟨tb', toff', t', ta', tc', e5, htlb', ht', t0', t1', t2', hti⟩ := (hts.below HB.out (Nat.le_refl _)).at_ hj
      injection e5 with e5
      injection e5 with e5 e6
      subst e5 e6
      rw [ht] at ht'
      injection ht' with ht'
      subst ht'
      have tq := (hB2.cell (p := ⟨tb, _, none⟩) htlb').trans t0'
      rw [t0] at tq
      injection tq with tq
      injection tq with tq1 tq2 tq3
      subst tq1 tq3
      have HTI := Lib.hid hti
      have HS := Lib.hid (show (zs.take (k + 1)).map (tgD ts) = (zs.take k).map (tgD ts) ++ [t] by rw [map_take_snoc (tgD ts) hz, tgD_at ht])
      have hxl : xs.length = ((zs.take k).map (tgD ts)).length * 3 := by
        have h := hown.1
        simp at h ⊢
        omega
      have HC2 := Lib.hid (hTC.push hxl hti (t := t) (c := tc))
      have HB2 := Lib.hid hB2
      clear hts hp ht hz hti t0' t1' t2' hTC hBB hB2 hxl
      go_wp2_with (at_builtin; refine wpList_append_own _ rfl (.tmp 22) (.tmp 27) 23 rfl w1.heap.size 60 i0 (.agg #[.slice none 0 0, .int .i64 0, .int .i64 0]) 3 40 Tryz.underlying23 hi hz0 hz1 hz2 rfl (by decide) _ _ _ rfl (hown.alloc _) ⟨wr.heap.size, 0, none⟩ 1 1 [.slice ta t.inn.length tc, .int .i64 t.out, .int .i64 t.want] rfl rfl ?c1 ?c2 ?c3 ?c4 ?c5 ?_)
      case c2 => simp [Value.oneCell']
      case c3 => unfold maxLen; omega
      case c4 => omega
      case c5 => have := HB2.out.size; simp; omega
      intro v' w2 hown' hgrow _
      have HB3 := Lib.hid ((HB2.out.alloc HB2.out.size _).grown hgrow (by have := HB2.out.size; simp; omega) (own_base hown))
      have HO := Lib.hid hown'
      clear hown hown' hgrow
      go_wp2_with fail
      go_roundw
      case rel => exact ⟨k + 1, _, by omega, by go_num, HO.out, by rw [HS.out]; exact HC2.out, HB3.out⟩
      case measure => simp [intOf]; omega
    · obtain rfl : k = zs.length := by omega
      rw [List.take_length] at hTC
      obtain ⟨va, vc, rfl⟩ := own_slice hown
      have HT := Lib.hid (ts_of_own hown hTC (by simp) hB2)
      have HB2 := Lib.hid (HB.out.trans (hB2.mono HB.out.size))
      clear hown hTC hB2
      go_wp2_with fail
      go_ret
      exact ⟨va, vc, by rw [List.length_map]; rfl, HT.out, HB2.out⟩

end Go.Proofs.YtigaklppdlknkaaGreat

/- Numbers that are tried: pick: contracts. -/
set_option linter.unusedVariables false
set_option linter.unusedSimpArgs false
namespace Go.Proofs.YtigaklppdlknkaaGreat
open Go.RowKit Tinker

/-- The numbers that are tried; the lists that go on from a beginning. -/
def valsTo (k : Nat) : List Int := (List.range k).map fun (n : Nat) => (n : Int) - 12
def compl : Nat → List Int → List (List Int)
  | 0, pre => [pre]
  | k + 1, pre => (valsTo 25).flatMap fun v => compl k (pre ++ [v])
theorem valsTo_succ (k : Nat) : valsTo (k + 1) = valsTo k ++ [(k : Int) - 12] := by unfold valsTo; rw [List.range_succ, List.map_append]; rfl
theorem valsTo_split {k : Nat} (h : k < 25) : ∃ r, valsTo 25 = valsTo k ++ ((k : Int) - 12) :: r := by
  refine ⟨(List.range' (k + 1) (24 - k)).map fun (n : Nat) => (n : Int) - 12, ?_⟩
  unfold valsTo
  rw [show (25 : Nat) = k + (1 + (24 - k)) by omega, List.range_eq_range', List.range_eq_range', ← List.range'_append_1 (s := 0) (m := k), List.map_append, Nat.zero_add, ← List.range'_append_1 (s := k) (m := 1), List.map_append]
  rfl
theorem find_flat {f : Int → List (List Int)} {P : List Int → Bool} {a r : List Int} {x : Int} (h : (a.flatMap f).find? P = none) {z : List Int} (hz : (f x).find? P = some z) : ((a ++ x :: r).flatMap f).find? P = some z := by
  rw [List.flatMap_append, List.find?_append, h, List.flatMap_cons, List.find?_append, hz]; rfl
theorem find_more {f : Int → List (List Int)} {P : List Int → Bool} {a : List Int} {x : Int} (h : (a.flatMap f).find? P = none) (hz : (f x).find? P = none) : ((a ++ [x]).flatMap f).find? P = none := by
  rw [List.flatMap_append, List.find?_append, h, List.flatMap_cons, List.find?_append, hz]; rfl

/-- Whether a test is passed by forced numbers. -/
def pasF (ps : List L) (t : T) (ls vs : List Int) : Bool := (fC ps t.inn ls vs == 0) && ((fA ps t.inn ls vs).getD t.out.toNat 0 == t.want)

/-- The memory of pick. -/
structure PkI (a b d : Option Addr) (ca cb cd : Nat) (ps : List L) (t : T) (ls vs : List Int) (w W : World) : Prop where
  bp : W.heap[w.heap.size]? = some (.cells #[.slice a ps.length ca] 22 (0, 0))
  bt : W.heap[w.heap.size + 1]? = some (.cells #[.slice b t.inn.length cb, .int .i64 t.out, .int .i64 t.want] 60 (0, 0))
  bl : W.heap[w.heap.size + 1 + 1]? = some (.cells #[.slice d ls.length cd] 34 (0, 0))
  br : W.heap[w.heap.size + 1 + 1 + 1]? = some (.cells (iv vs) 3 (0, 0))
  bv : W.heap[w.heap.size + 1 + 1 + 1 + 1]? = some (.cells #[.slice (some ⟨w.heap.size + 1 + 1 + 1, 0, none⟩) ls.length ls.length] 34 (0, 0))
  bf : W.heap[w.heap.size + 1 + 1 + 1 + 1 + 1]? = some (.cells #[.func (.func 162) #[] #[.pointer (some ⟨w.heap.size + 1 + 1, 0, none⟩), .pointer (some ⟨w.heap.size, 0, none⟩), .pointer (some ⟨w.heap.size + 1, 0, none⟩), .pointer (some ⟨w.heap.size + 1 + 1 + 1 + 1, 0, none⟩), .pointer (some ⟨w.heap.size + 1 + 1 + 1 + 1 + 1, 0, none⟩)]] 144 (0, 0))
  ln : vs.length = ls.length
  below : Below w.heap.size w W
section
variable {a b d : Option Addr} {ca cb cd : Nat} {ps : List L} {t : T} {ls vs : List Int} {w W W' : World}
theorem PkI.low (h : PkI a b d ca cb cd ps t ls vs w W) (hb : Below W.heap.size W W') : PkI a b d ca cb cd ps t ls vs w W' :=
  ⟨hp_below h.bp hb (hp_lt h.bp), hp_below h.bt hb (hp_lt h.bt), hp_below h.bl hb (hp_lt h.bl), hp_below h.br hb (hp_lt h.br), hp_below h.bv hb (hp_lt h.bv), hp_below h.bf hb (hp_lt h.bf), h.ln, h.below.trans (hb.mono h.below.size)⟩
theorem PkI.drewN (h : PkI a b d ca cb cd ps t ls vs w W) (q : Nat) : PkI a b d ca cb cd ps t ls vs w (W.drewN q) := h.low ⟨rfl, rfl, rfl, Nat.le_refl _, fun _ _ => rfl⟩
theorem PkI.put (h : PkI a b d ca cb cd ps t ls vs w W) (j : Nat) (v : Int) : PkI a b d ca cb cd ps t ls (vs.set j v) w (W.setCell ⟨w.heap.size + 1 + 1 + 1, j, none⟩ (.int .i64 v)) :=
  ⟨hp_set h.bp (p := ⟨w.heap.size + 1 + 1 + 1, j, none⟩) (by show w.heap.size ≠ w.heap.size + 1 + 1 + 1; omega) _,
   hp_set h.bt (p := ⟨w.heap.size + 1 + 1 + 1, j, none⟩) (by show w.heap.size + 1 ≠ w.heap.size + 1 + 1 + 1; omega) _,
   hp_set h.bl (p := ⟨w.heap.size + 1 + 1 + 1, j, none⟩) (by show w.heap.size + 1 + 1 ≠ w.heap.size + 1 + 1 + 1; omega) _,
   by rw [← iv_set]; exact hp_put h.br j (.int .i64 v),
   hp_set h.bv (p := ⟨w.heap.size + 1 + 1 + 1, j, none⟩) (by show w.heap.size + 1 + 1 + 1 + 1 ≠ w.heap.size + 1 + 1 + 1; omega) _,
   hp_set h.bf (p := ⟨w.heap.size + 1 + 1 + 1, j, none⟩) (by show w.heap.size + 1 + 1 + 1 + 1 + 1 ≠ w.heap.size + 1 + 1 + 1; omega) _,
   by rw [List.length_set]; exact h.ln, h.below.setCell (p := ⟨w.heap.size + 1 + 1 + 1, j, none⟩) (by show _ ≤ w.heap.size + 1 + 1 + 1; omega) _⟩
theorem PkI.ints (h : PkI a b d ca cb cd ps t ls vs w W) : IntsAt W (some ⟨w.heap.size + 1 + 1 + 1, 0, none⟩) vs :=
  .inr ⟨w.heap.size + 1 + 1 + 1, 0, rfl, hp_lt h.br, fun j n hj => by
    rw [Nat.zero_add]
    exact hp_cell h.br (by simp [iv, hj])⟩
end
theorem take_set {l : List Int} {i : Nat} (h : i < l.length) (v : Int) : (l.set i v).take (i + 1) = l.take i ++ [v] := by
  rw [List.take_add_one, List.getElem?_set_self h, List.take_set]
  rw [List.set_eq_of_length_le (by simp; omega)]
  rfl

/-- What the trial from a place on answers. -/
def GivesPick (a b d : Option Addr) (ca cb cd : Nat) (ps : List L) (t : T) (ls : List Int) (w : World) (O : Option (List Int)) (i : Nat) (pre : List Int) (e : Ending) (W' : World) : Prop :=
  e = .returned (.bool O.isSome) ∧ ∃ vs', PkI a b d ca cb cd ps t ls vs' w W' ∧ vs'.take i = pre ∧ ∀ z, O = some z → vs' = z

set_option maxRecDepth 100000 in
set_option maxHeartbeats 4000000 in
theorem pick_rec (a b d : Option Addr) (ca cb cd : Nat) (ps : List L) (t : T) (ls : List Int) (w : World) (hp : LinesAt w a ps) (hi : IntsAt w b t.inn) (hl : IntsAt w d ls) (hT : isT t = true) (hm : ls.length ≤ 1000) :
    ∀ (k i : Nat) (vs : List Int) (W : World), i + k = ls.length → PkI a b d ca cb cd ps t ls vs w W →
      Calls Tryz.prog 162 #[.int .i64 i, .pointer (some ⟨w.heap.size + 1 + 1, 0, none⟩), .pointer (some ⟨w.heap.size, 0, none⟩), .pointer (some ⟨w.heap.size + 1, 0, none⟩), .pointer (some ⟨w.heap.size + 1 + 1 + 1 + 1, 0, none⟩), .pointer (some ⟨w.heap.size + 1 + 1 + 1 + 1 + 1, 0, none⟩)] W
        (GivesPick a b d ca cb cd ps t ls w ((compl k (vs.take i)).find? (pasF ps t ls)) i (vs.take i)) := by
  intro k
  induction k with
  | zero =>
    intro i vs W hik hI
    obtain rfl : i = ls.length := by omega
    have hz4 := isT_ok hT
    have hr := btw_true.1 (show btw t.out 0 3 = true from hz4.2.1)
    have H4 := vs_ok hz4.1
    have HF := Lib.hid (fun w' hp hs hl hv => force_any a b d (some ⟨w.heap.size + 1 + 1 + 1, 0, none⟩) ca cb cd ls.length ps t.inn ls vs w' hp hs hl hv (by have := H4.1; omega) hm (by have := hI.ln; omega))
    rw [hI.ln] at HF
    have hvs : vs.take ls.length = vs := List.take_of_length_le (by rw [hI.ln]; exact Nat.le_refl _)
    have HVS := Lib.hid hvs
    rw [hvs]
    have e0 : (compl 0 vs).find? (pasF ps t ls) = if pasF ps t ls vs = true then some vs else none := by
      unfold compl
      rw [List.find?_cons]
      cases pasF ps t ls vs <;> simp
    rw [e0]
    have HP := Lib.hid (hp.below hI.below (Nat.le_refl _))
    have HII := Lib.hid (hi.below hI.below (Nat.le_refl _))
    have HL := Lib.hid (hl.below hI.below (Nat.le_refl _))
    have HV := Lib.hid hI.ints
    have HI := Lib.hid hI
    have x1 := hp_cell hI.bl (j := 0) (by rfl)
    have x2 := hp_cell hI.bp (j := 0) (by rfl)
    have x3 := hp_cell hI.bt (j := 0) (by rfl)
    have x4 := hp_cell hI.bv (j := 0) (by rfl)
    have hbool : ∀ P : Bool, (if P = true then some vs else none).isSome = P := by intro P; cases P <;> rfl
    have hsome : ∀ (P : Bool) (z : List Int), (if P = true then some vs else none) = some z → vs = z := by
      intro P z h; cases P <;> simp at h; exact h
    have HBO := Lib.hid hbool
    have HS := Lib.hid hsome
    have HPF := Lib.hid (show pasF ps t ls vs = ((fC ps t.inn ls vs == 0) && ((fA ps t.inn ls vs).getD t.out.toNat 0 == t.want)) from rfl)
    have HAL := Lib.hid (fun h => (fA_ok (p := ps) (s := t.inn) (ls := ls) (vs := vs) h).1)
    rw [HPF.out]
    generalize fC ps t.inn ls vs = c at HF HAL ⊢
    generalize fA ps t.inn ls vs = X at HF HAL ⊢
    clear hp hi hl hI hvs e0 hbool hsome hik hz4 H4
    by_cases hc : c = 0
    · subst hc
      have hXl := HAL.out rfl
      obtain ⟨x, hx⟩ := get_of_lt (show t.out.toNat < X.length by omega)
      have HX := Lib.hid (show X.getD t.out.toNat 0 = x from getD_of_get hx)
      have HXG := Lib.hid hx
      obtain ⟨inn, out, want⟩ := t
      simp only at *
      obtain ⟨o, rfl⟩ : ∃ o : Nat, out = o := ⟨out.toNat, by omega⟩
      have HN := Lib.hid (show ((o : Int)).toNat = o by omega)
      have ho3 : o < X.length := by omega
      have hQ : ((0 : Int) == 0 && X.getD ((o : Int)).toNat 0 == want) = (x == want) := by rw [HX.out]; rfl
      rw [hQ]
      generalize hqq : (x == want) = Q
      have HQ := Lib.hid hqq
      have HB0 := Lib.hid (HBO.out Q)
      have HS0 := Lib.hid (HS.out Q)
      generalize (if Q = true then some vs else none) = O at HB0 HS0 ⊢
      clear hx hXl hQ hqq
      go_enter Tryz.func162, Tryz.ntmps162
      go_wp2_with fail
      refine (HF.out _ HP.out HII.out HL.out HV.out).mono ?_
      rintro e w1 ⟨a1, c1, rfl, ho, hB⟩
      have HI1 := Lib.hid (HI.out.low hB)
      obtain ⟨xb, xo, xv, rfl, hxb, hxv, y0⟩ := (ints_of_own ho).1.at_ ho3
      have HXV := Lib.hid (show x = xv by
        have h1 := HXG.out
        rw [HN.out, hxv] at h1
        injection h1 with h1
        exact h1.symm)
      clear ho hxv hB HI x1 x2 x3 x4
      have x3 := hp_cell HI1.out.bt (j := 0) (by rfl)
      have x4 := hp_cell HI1.out.bt (j := 1) (by rfl)
      have x5 := hp_cell HI1.out.bt (j := 2) (by rfl)
      go_wp2_with fail
      go_quiet (fail)
      go_wp2_with fail
      go_ret
      exact ⟨ret_bool (by rw [HB0.out, ← HXV.out]; exact HQ.out), vs, HI1.out.drewN _, HVS.out, fun z h => HS0.out z h⟩
    · have hc1 : (c == 0) = false := by simpa using hc
      have hQ : (c == 0 && X.getD t.out.toNat 0 == t.want) = false := by rw [hc1]; rfl
      rw [hQ]
      have HB0 := Lib.hid (HBO.out false)
      have HS0 := Lib.hid (HS.out false)
      generalize (if false = true then some vs else none) = O at HB0 HS0 ⊢
      have hc2 : (c != 0) = true := by simpa using hc
      obtain ⟨inn, out, want⟩ := t
      simp only at *
      clear hc hQ
      go_enter Tryz.func162, Tryz.ntmps162
      go_wp2_with fail
      refine (HF.out _ HP.out HII.out HL.out HV.out).mono ?_
      rintro e w1 ⟨a1, c1, rfl, ho, hB⟩
      have HI1 := Lib.hid (HI.out.low hB)
      clear ho hB HI x1 x2 x3 x4
      have x3 := hp_cell HI1.out.bt (j := 0) (by rfl)
      have x4 := hp_cell HI1.out.bt (j := 1) (by rfl)
      have x5 := hp_cell HI1.out.bt (j := 2) (by rfl)
      go_wp2_with fail
      go_quiet (fail)
      go_wp2_with fail
      go_ret
      exact ⟨ret_bool HB0.out.symm, vs, HI1.out.drewN _, HVS.out, fun z h => HS0.out z h⟩
  | succ k ih =>
    intro i vs W hik hI
    have hvl := hI.ln
    have HIH := Lib.hid ih
    have HI := Lib.hid hI
    have x1 := hp_cell hI.bl (j := 0) (by rfl)
    have hne : ((i : Int) == (ls.length : Int)) = false := by rw [beq_eq_false_iff_ne]; omega
    have HC := Lib.hid (show compl (k + 1) (vs.take i) = (valsTo 25).flatMap fun v => compl k (vs.take i ++ [v]) from rfl)
    rw [HC.out]
    clear hp hi hl hI ih HC
    generalize hO : ((valsTo 25).flatMap fun v => compl k (vs.take i ++ [v])).find? (pasF ps t ls) = O
    have HO := Lib.hid hO
    clear hO
    go_enter Tryz.func162, Tryz.ntmps162
    go_wp2_with fail
    go_loopw [36] (fun s36 wr => ∃ (n' : Nat) (vs' : List Int), s36 = .int .i64 n' ∧ n' ≤ 25 ∧ PkI a b d ca cb cd ps t ls vs' w wr ∧ vs'.take i = vs.take i ∧ ((valsTo n').flatMap fun v => compl k (vs.take i ++ [v])).find? (pasF ps t ls) = none) (fun s36 _ => 25 - (intOf s36).toNat)
    case atStart => exact ⟨0, vs, rfl, by omega, HI.out, rfl, rfl⟩
    case round =>
      clear HI x1
      obtain ⟨n', vs', rfl, hn, hI, htk, hno⟩ := hrel
      have HI := Lib.hid hI
      have HTK := Lib.hid htk
      have HNO := Lib.hid hno
      have hvl' := hI.ln
      clear hI htk hno
      by_cases hlt : n' < 25
      · have x4 := hp_cell HI.out.bv (j := 0) (by rfl)
        have x6 := hp_cell HI.out.bf (j := 0) (by rfl)
        have m1 := hp_cell HI.out.br (iv_getN vs' i (by omega))
        have m2 := hp_free HI.out.br i
        have HJ := Lib.hid (HI.out.put i ((n' : Int) - 12))
        have HTT := Lib.hid (show (vs'.set i ((n' : Int) - 12)).take (i + 1) = vs.take i ++ [(n' : Int) - 12] by rw [take_set (by omega), HTK.out])
        have hx := HIH.out (i + 1) (vs'.set i ((n' : Int) - 12)) _ (by omega) HJ.out
        rw [HTT.out] at hx
        have x7 := hp_cell HJ.out.bf (j := 0) (by rfl)
        have ec : (((i + 1 : Nat)) : Int) = (i : Int) + 1 := by omega
        simp only [ec] at hx
        generalize hq : (compl k (vs.take i ++ [(n' : Int) - 12])).find? (pasF ps t ls) = q at hx
        have HX := Lib.hid hx
        have HQ := Lib.hid hq
        clear hx hq ec HI
        cases q with
        | none =>
          go_wp2_with fail
          refine HX.out.mono ?_
          rintro e w2 ⟨rfl, vs2, hI2, ht2, _⟩
          have HI2 := Lib.hid hI2
          have HT2 := Lib.hid (show vs2.take i = vs.take i by
            have h := congrArg (List.take i) ht2
            rw [List.take_take, show min i (i + 1) = i by omega, List.take_append_of_le_length (by simp; omega), List.take_take, Nat.min_self] at h
            exact h)
          clear hI2 ht2 HX x4 x6 x7 m1 m2 HJ
          go_wp2_with fail
          go_roundw
          case rel => exact ⟨n' + 1, vs2, by go_num, by omega, HI2.out, HT2.out, by rw [valsTo_succ]; exact find_more HNO.out HQ.out⟩
          case measure => simp [intOf]; omega
        | some z =>
          go_wp2_with fail
          refine HX.out.mono ?_
          rintro e w2 ⟨rfl, vs2, hI2, ht2, hz2⟩
          have HI2 := Lib.hid hI2
          have HT2 := Lib.hid (show vs2.take i = vs.take i by
            have h := congrArg (List.take i) ht2
            rw [List.take_take, show min i (i + 1) = i by omega, List.take_append_of_le_length (by simp; omega), List.take_take, Nat.min_self] at h
            exact h)
          obtain ⟨r, hr⟩ := valsTo_split hlt
          have HOZ := Lib.hid (show O = some z from HO.out.symm.trans (by rw [hr]; exact find_flat HNO.out HQ.out))
          have HZ := Lib.hid (hz2 z rfl)
          clear hI2 ht2 hz2 hr HX x4 x6 x7 m1 m2 HJ
          go_wp2_with fail
          go_ret
          exact ⟨ret_bool (by rw [HOZ.out]; rfl), vs2, HI2.out, HT2.out, fun y hy => by rw [HZ.out]; rw [HOZ.out] at hy; injection hy⟩
      · obtain rfl : n' = 25 := by omega
        have HON := Lib.hid (show O = none from HO.out.symm.trans HNO.out)
        go_wp2_with fail
        go_ret
        exact ⟨ret_bool (by rw [HON.out]; rfl), vs', HI.out, HTK.out, fun y hy => by rw [HON.out] at hy; cases hy⟩

/-- What pick answers. -/
def GivesO (o : Option (List Int)) (w : World) (e : Ending) (w' : World) : Prop :=
  ∃ a c, e = .returned (.tuple #[.slice a (o.getD []).length c, .bool o.isSome]) ∧ IntsAt w' a (o.getD []) ∧ Below w.heap.size w w'
def pickO (ps : List L) (t : T) (ls : List Int) : Option (List Int) := (compl ls.length []).find? (pasF ps t ls)

set_option maxRecDepth 100000 in
set_option maxHeartbeats 4000000 in
theorem pick_any (a b d : Option Addr) (ca cb cd : Nat) (ps : List L) (t : T) (ls : List Int) (w : World) (hp : LinesAt w a ps) (hi : IntsAt w b t.inn) (hl : IntsAt w d ls) (hT : isT t = true) (hm : ls.length ≤ 8) :
    Calls Tryz.prog 106 #[.slice a ps.length ca, .agg #[.slice b t.inn.length cb, .int .i64 t.out, .int .i64 t.want], .slice d ls.length cd] w (GivesO (pickO ps t ls) w) := by
  have hmk := mkInts ls.length hm
  have hrec := fun W h => pick_rec a b d ca cb cd ps t ls w hp hi hl hT (by omega) ls.length 0 (List.replicate ls.length 0) W (by omega) h
  rw [List.take_zero] at hrec
  have HR := Lib.hid hrec
  have HO := Lib.hid (show pickO ps t ls = (compl ls.length []).find? (pasF ps t ls) from rfl)
  rw [HO.out]
  generalize (compl ls.length []).find? (pasF ps t ls) = O at HR HO ⊢
  clear hrec hp hi hl hT
  go_enter Tryz.func106, Tryz.ntmps106
  go_wp2_with fail
  have hI0 : PkI a b d ca cb cd ps t ls (List.replicate ls.length 0) w ((((((w.alloc (.cells #[.slice a ps.length ca] 22)).alloc (.cells #[.slice b t.inn.length cb, .int .i64 t.out, .int .i64 t.want] 60)).alloc (.cells #[.slice d ls.length cd] 34)).alloc (.cells (iv (List.replicate ls.length 0)) 3)).alloc (.cells #[.slice (some ⟨w.heap.size + 1 + 1 + 1, 0, none⟩) ls.length ls.length] 34)).alloc (.cells #[.func (.func 162) #[] #[.pointer (some ⟨w.heap.size + 1 + 1, 0, none⟩), .pointer (some ⟨w.heap.size, 0, none⟩), .pointer (some ⟨w.heap.size + 1, 0, none⟩), .pointer (some ⟨w.heap.size + 1 + 1 + 1 + 1, 0, none⟩), .pointer (some ⟨w.heap.size + 1 + 1 + 1 + 1 + 1, 0, none⟩)]] 144)) :=
    ⟨hp_alloc (hp_alloc (hp_alloc (hp_alloc (hp_alloc (hp_new rfl))))), hp_alloc (hp_alloc (hp_alloc (hp_alloc (hp_new (by simp))))), hp_alloc (hp_alloc (hp_alloc (hp_new (by simp)))), hp_alloc (hp_alloc (hp_new (by simp))), hp_alloc (hp_new (by simp)), hp_new (by simp), by simp,
     (((((((Below.refl w.heap.size w).alloc (Nat.le_refl _) _).alloc (by simp) _).alloc (by simp; omega) _).alloc (by simp; omega) _).alloc (by simp; omega) _).alloc (by simp; omega) _)⟩
  refine (HR.out _ hI0).mono ?_
  intro e w1 hG
  obtain ⟨rfl, vs', hI, _, hz⟩ := hG
  have x4 := hp_cell hI.bv (j := 0) (by rfl)
  have HZ := Lib.hid hz
  have HI := Lib.hid hI
  clear hI0 hI hz HR hmk
  cases O with
  | none =>
    go_wp2_with fail
    go_ret2
    exact ⟨none, 0, rfl, .inl rfl, HI.out.below⟩
  | some z =>
    obtain rfl := HZ.out z rfl
    have HL := Lib.hid HI.out.ln
    go_wp2_with fail
    go_ret2
    exact ⟨some ⟨w.heap.size + 1 + 1 + 1, 0, none⟩, ls.length, by rw [Option.getD_some, HL.out]; rfl, HI.out.ints, HI.out.below⟩

/-- Whether all tests can be passed. -/
def capB (ps : List L) (ts : List T) (ls : List Int) : Bool := ts.all fun t => (pickO ps t ls).isSome

set_option maxRecDepth 100000 in
set_option maxHeartbeats 2000000 in
theorem canPassAll_any (a g d : Option Addr) (ca cg cd : Nat) (ps : List L) (ts : List T) (ls : List Int) (w : World) (hp : LinesAt w a ps) (hts : TestsAt w g ts) (hl : IntsAt w d ls) (hT : ∀ t ∈ ts, isT t = true) (hm : ls.length ≤ 8) (hm2 : ts.length ≤ 1000) :
    Calls Tryz.prog 64 #[.slice a ps.length ca, .slice g ts.length cg, .slice d ls.length cd] w fun e w' => e = .returned (.bool (capB ps ts ls)) ∧ Below w.heap.size w w' := by
  have HP := Lib.hid hp
  have HL := Lib.hid hl
  have HT := Lib.hid hT
  clear hp hl hT
  go_enter Tryz.func64, Tryz.ntmps64
  go_wp2_with fail
  go_loopw [13] (fun s13 wr => ∃ k : Nat, k ≤ ts.length ∧ s13 = .int .i64 k ∧ (ts.take k).all (fun t => (pickO ps t ls).isSome) = true ∧ Below w.heap.size w wr) (fun s13 _ => ts.length - (intOf s13).toNat)
  case atStart => exact ⟨0, Nat.zero_le _, rfl, by simp, Below.refl _ _⟩
  case round =>
    obtain ⟨k, hk, rfl, hall, hB⟩ := hrel
    have HA := Lib.hid hall
    clear hall
    by_cases hlt : k < ts.length
    · obtain ⟨b, off, t, a', c, rfl, hlb, ht, c0, c1, c2, hi⟩ := (hts.below hB (Nat.le_refl _)).at_ hlt
      have hnew := boxT_new (a := a') (n := t.inn.length) (ca := c) (out := t.out) (want := t.want) wr
      have x0 := hnew.c0
      have x1 := hnew.c1
      have x2 := hnew.c2
      have HB1 := Lib.hid (hB.trans (hnew.below.mono hB.size))
      have HPK := Lib.hid (pick_any a a' d ca c cd ps t ls _ (HP.out.below HB1.out (Nat.le_refl _)) (hi.below hnew.below (Nat.le_refl _)) (HL.out.below HB1.out (Nat.le_refl _)) (HT.out t (mem_of_get ht)) hm)
      have HX := Lib.hid ht
      generalize hq : pickO ps t ls = q at HPK
      have HQ := Lib.hid hq
      clear hts ht hi hnew hB hq
      cases q with
      | none =>
        go_wp2_with fail
        refine HPK.out.mono ?_
        rintro e w2 ⟨a2, c2', rfl, _, hB2⟩
        go_wp2_with fail
        go_ret
        exact ⟨ret_bool (by unfold capB; exact (all_not HX.out (by rw [HQ.out]; rfl)).symm), HB1.out.trans (hB2.mono HB1.out.size)⟩
      | some z =>
        go_wp2_with fail
        refine HPK.out.mono ?_
        rintro e w2 ⟨a2, c2', rfl, _, hB2⟩
        go_wp2_with fail
        go_roundw
        case rel => exact ⟨k + 1, by omega, by go_num, all_snoc HA.out HX.out (by rw [HQ.out]; rfl), HB1.out.trans (hB2.mono HB1.out.size)⟩
        case measure => simp [intOf]; omega
    · have HZ := Lib.hid (all_whole HA.out hlt)
      go_wp2_with fail
      go_ret
      exact ⟨ret_bool (by unfold capB; exact HZ.out.symm), hB⟩

end Go.Proofs.YtigaklppdlknkaaGreat

/- The search over all sets, for one function value: contract. -/
set_option linter.unusedVariables false
set_option linter.unusedSimpArgs false
namespace Go.Proofs.YtigaklppdlknkaaGreat
open Go.RowKit Tinker

set_option maxRecDepth 100000 in
set_option maxHeartbeats 4000000 in
theorem extend_M (P0 : Nat → Bool) (P Q R : Nat) (w : World)
    (hP : ∀ (m : Nat) (W : World), m < 256 → Below w.heap.size w W → Calls Tryz.prog 61 #[.int .u64 m, .pointer (some ⟨P, 0, none⟩), .pointer (some ⟨Q, 0, none⟩), .pointer (some ⟨R, 0, none⟩)] W fun e W' => e = .returned (.bool (P0 m)) ∧ Below W.heap.size W W') :
    ∀ (k m n : Nat) (v : Value) (ms : List Nat) (W : World), k + n = 8 → m < 256 → ms.length + (tlM k m).length + 1 ≤ 1000 → FdI (.func (.func 61) #[] #[.pointer (some ⟨P, 0, none⟩), .pointer (some ⟨Q, 0, none⟩), .pointer (some ⟨R, 0, none⟩)]) w v ms W →
      Calls Tryz.prog 118 #[.int .u64 m, .int .i64 n, .pointer (some ⟨w.heap.size, 0, none⟩), .pointer (some ⟨w.heap.size + 1, 0, none⟩), .pointer (some ⟨w.heap.size + 1 + 1, 0, none⟩)] W
        fun e W' => e = .returned (.tuple #[]) ∧ ∃ v', FdI (.func (.func 61) #[] #[.pointer (some ⟨P, 0, none⟩), .pointer (some ⟨Q, 0, none⟩), .pointer (some ⟨R, 0, none⟩)]) w v' (ms ++ (m :: tlM k m).filter P0) W' := by
  intro k
  induction k using Nat.strongRecOn with
  | _ k ih =>
    intro m n v ms W hkn hm hlen hI
    obtain ⟨i0, hi, hz0, hz1, hz2⟩ := info_parts info_mask
    have HC := Lib.hid (hP m W hm hI.below)
    have HP := Lib.hid hP
    have IH := Lib.hid ih
    have HI := Lib.hid hI
    have x0 := hp_cell hI.bf (j := 0) (by rfl)
    clear hP ih hI
    have REST : ∀ (v1 : Value) (ms1 : List Nat) (W1 : World), True := fun _ _ _ => trivial
    clear REST
    cases hb : P0 m
    · have HE := Lib.hid (show (m :: tlM k m).filter P0 = (tlM k m).filter P0 by rw [List.filter_cons_of_neg (by simp [hb])])
      rw [hb] at HC
      rw [HE.out]
      clear hb HE
      go_enter Tryz.func118, Tryz.ntmps118
      go_wp2_with fail
      refine HC.out.mono ?_
      rintro e w1 ⟨rfl, hB⟩
      have HI1 := Lib.hid (HI.out.low hB)
      clear hB HI x0 HC
      go_wp2_with fail
      go_loopw [7] (fun s7 wr => ∃ (n' : Nat) (v' : Value) (ms' : List Nat), s7 = .int .i64 n' ∧ n ≤ n' ∧ n' ≤ 8 ∧ FdI (.func (.func 61) #[] #[.pointer (some ⟨P, 0, none⟩), .pointer (some ⟨Q, 0, none⟩), .pointer (some ⟨R, 0, none⟩)]) w v' ms' wr ∧ ms' ++ (tlM (8 - n') m).filter P0 = ms ++ (tlM k m).filter P0 ∧ ms'.length + (tlM (8 - n') m).length ≤ 1000) (fun s7 _ => 8 - (intOf s7).toNat)
      case atStart => exact ⟨n, _, _, rfl, Nat.le_refl _, by omega, HI1.out, by rw [show 8 - n = k by omega], by rw [show 8 - n = k by omega]; omega⟩
      case round =>
        obtain ⟨n', v', ms', rfl, hn1, hn2, hI, heq, hle⟩ := hrel
        have HQ := Lib.hid heq
        have HIr := Lib.hid hI
        have HLE := Lib.hid hle
        clear HI1 heq hI hle
        by_cases hlt : n' < 8
        · have HW := Lib.hid (fun w => with_any m n' hm hlt w)
          have HT := Lib.hid (tlM_step hlt m)
          have hle2 := HLE.out
          rw [HT.out] at hle2
          simp only [List.length_append, List.length_cons] at hle2
          have hx := fun W h => IH.out (8 - (n' + 1)) (by omega) (m ||| 2 ^ n') (n' + 1) v' ms' W (by omega) (with_lt m hm n' hlt) (by omega) h
          have ec : (((n' + 1 : Nat)) : Int) = (n' : Int) + 1 := by omega
          simp only [ec] at hx
          have HX := Lib.hid hx
          clear hx ec
          have xe := hp_cell HIr.out.be (j := 0) (by rfl)
          go_wp2_with fail
          refine wp_region_held_drew (S := (fun w' => w'.cell? ⟨w.heap.size + 1 + 1, 0, none⟩ = some (.func (.func 118) #[] #[.pointer (some ⟨w.heap.size, 0, none⟩), .pointer (some ⟨w.heap.size + 1, 0, none⟩), .pointer (some ⟨w.heap.size + 1 + 1, 0, none⟩)]))) (by kernel_rfl) ?_ (fun hHeld => ?_)
          · exact xe
          refine wpAnyH_take (i := 0) (oi := ?oiz00) (v := ?vz00) ?hiz00 (by kernel_rfl) (by kernel_rfl) (by kernel_rfl) ?hqz00 ?hyz00 hHeld ?restz00
          case hiz00 => exact rfl
          case hqz00 => exact fun _ _ _ h => h
          case hyz00 =>
            refine Or.inl ⟨by rfl, ?_⟩
            intro w hSw
            (try dsimp only at hSw)
            go_simp
            (try with_reducible rfl)
          try simp only [Act.put, List.getElem_toArray, List.getElem_cons_succ, List.getElem_cons_zero, List.setIfInBounds_toArray, List.set_cons_zero, List.set_cons_succ]
          refine wpAnyH_take (i := 1) (oi := ?oiz01) (v := ?vz01) ?hiz01 (by kernel_rfl) (by kernel_rfl) (by kernel_rfl) ?hqz01 ?hyz01 hHeld ?restz01
          case hiz01 => exact rfl
          case hqz01 => exact fun _ _ _ h => h
          case hyz01 =>
            refine Or.inl ⟨by rfl, ?_⟩
            intro w hSw
            (try dsimp only at hSw)
            go_simp
            (try with_reducible rfl)
          try simp only [Act.put, List.getElem_toArray, List.getElem_cons_succ, List.getElem_cons_zero, List.setIfInBounds_toArray, List.set_cons_zero, List.set_cons_succ]
          refine wpAnyH_take (i := 2) (oi := ?oiz02) (v := ?vz02) ?hiz02 (by kernel_rfl) (by kernel_rfl) (by kernel_rfl) ?hqz02 ?hyz02 hHeld ?restz02
          case hiz02 => exact rfl
          case hqz02 => exact fun _ _ _ h => h
          case hyz02 =>
            refine Or.inl ⟨by rfl, ?_⟩
            intro w hSw
            (try dsimp only at hSw)
            go_simp
            (try with_reducible rfl)
          try simp only [Act.put, List.getElem_toArray, List.getElem_cons_succ, List.getElem_cons_zero, List.setIfInBounds_toArray, List.set_cons_zero, List.set_cons_succ]
          refine wpAnyH_take (i := 4) (oi := ?oiz04) (v := ?vz04) ?hiz04 (by kernel_rfl) (by kernel_rfl) (by kernel_rfl) ?hqz04 ?hyz04 hHeld ?restz04
          case hiz04 => exact rfl
          case hqz04 => exact fun _ _ _ h => h
          case hyz04 =>
            refine Or.inl ⟨by rfl, ?_⟩
            intro w hSw
            (try dsimp only at hSw)
            go_simp
            (try with_reducible rfl)
          try simp only [Act.put, List.getElem_toArray, List.getElem_cons_succ, List.getElem_cons_zero, List.setIfInBounds_toArray, List.set_cons_zero, List.set_cons_succ]
          refine wpAnyH_take (i := 5) (oi := ?oiz05) (v := ?vz05) ?hiz05 (by kernel_rfl) (by kernel_rfl) (by kernel_rfl) ?hqz05 ?hyz05 hHeld ?restz05
          case hiz05 => exact rfl
          case hqz05 => exact fun _ _ _ h => h
          case hyz05 =>
            refine Or.inl ⟨by rfl, ?_⟩
            intro w hSw
            (try dsimp only at hSw)
            go_simp
            (try with_reducible rfl)
          try simp only [Act.put, List.getElem_toArray, List.getElem_cons_succ, List.getElem_cons_zero, List.setIfInBounds_toArray, List.set_cons_zero, List.set_cons_succ]
          refine wpAnyH_ready (rs := [3]) (by kernel_rfl) (by simp) ?_
          refine AllReadyH.cons (o := ?ooz03) ?hoz03 ?hkz03 AllReadyH.nil
          case hoz03 => exact rfl
          intro K hK
          go_simp
          refine (HW.out _).mono ?_
          rintro e wa ⟨rfl, rfl⟩
          refine hK.out _ _ ?_ (fun hHeld => ?_)
          · exact xe
          clear hK K
          try simp only [Act.put, List.getElem_toArray, List.getElem_cons_succ, List.getElem_cons_zero, List.setIfInBounds_toArray, List.set_cons_zero, List.set_cons_succ]
          refine wpAnyH_ready (rs := [6]) (by kernel_rfl) (by simp) ?_
          refine AllReadyH.cons (o := ?ooz06) ?hoz06 ?hkz06 AllReadyH.nil
          case hoz06 => exact rfl
          intro K hK
          go_simp
          rw [IntWalk.i64_in ((n' : Int) + 1) (by omega)]
          refine (HX.out _ HIr.out.drew).mono ?_
          rintro e wa ⟨rfl, vn, hIn⟩
          refine hK.out _ _ ?_ (fun hHeld => ?_)
          · exact hp_cell hIn.be (j := 0) (by rfl)
          clear hK K
          try simp only [Act.put, List.getElem_toArray, List.getElem_cons_succ, List.getElem_cons_zero, List.setIfInBounds_toArray, List.set_cons_zero, List.set_cons_succ]
          refine wpAnyH_done (by kernel_rfl) ?_ _
          have HN := Lib.hid hIn
          clear hIn HIr HX xe
          go_wp2_with fail
          go_roundw
          case rel =>
            refine ⟨n' + 1, vn, _, by go_num, by omega, by omega, HN.out, ?_, ?_⟩
            · rw [← HQ.out, HT.out, List.filter_append, List.append_assoc]
            · have h1 := List.length_filter_le P0 ((m ||| 2 ^ n') :: tlM (8 - (n' + 1)) (m ||| 2 ^ n'))
              simp only [List.length_append, List.length_cons] at h1 ⊢
              omega
          case measure => simp [intOf]; omega
        · obtain rfl : n' = 8 := by omega
          have hq := HQ.out
          rw [show tlM (8 - 8) m = [] from rfl] at hq
          simp only [List.filter_nil, List.append_nil] at hq
          have HQ2 := Lib.hid hq
          clear hq
          go_wp2_with fail
          go_end0
          exact ⟨rfl, v', by rw [← HQ2.out]; exact HIr.out⟩
    · have HE := Lib.hid (show (m :: tlM k m).filter P0 = m :: (tlM k m).filter P0 by rw [List.filter_cons_of_pos (by simp [hb])])
      rw [hb] at HC
      rw [HE.out, show ms ++ m :: (tlM k m).filter P0 = (ms ++ [m]) ++ (tlM k m).filter P0 by simp]
      clear hb HE
      go_enter Tryz.func118, Tryz.ntmps118
      go_wp2_with fail
      refine HC.out.mono ?_
      rintro e w1 ⟨rfl, hB⟩
      have HI1 := Lib.hid (HI.out.low hB)
      clear hB HI x0 HC
      have x1 := hp_cell HI1.out.bv (j := 0) (by rfl)
      have f1 := hp_free HI1.out.bv 0
      have hown := HI1.out.out
      go_wp2_with (at_builtin; refine wpList_append_own _ rfl (.tmp 11) (.tmp 13) 85 rfl (w.heap.size + 3) 88 i0 (.int .u64 0) 1 8 Tryz.underlying85 hi hz0 hz1 hz2 rfl (by decide) _ _ _ rfl (hown.alloc _) ⟨w1.heap.size, 0, none⟩ 1 1 [.int .u64 m] rfl rfl ?c1 ?c2 ?c3 ?c4 ?c5 ?_)
      case c1 => exact cell_one_new _ _ _
      case c2 => simp [Value.oneCell']
      case c3 => unfold maxLen; omega
      case c4 => omega
      case c5 => have := HI1.out.size; simp; omega
      intro v' w2 hown' hgrow _
      obtain ⟨va, vc, rfl⟩ := own_slice hown'
      have HI2 := Lib.hid (HI1.out.push hown' hgrow)
      have hsz := HI1.out.size
      have hsz2 : w1.heap.size < w2.heap.size := by have := hgrow.size; simp at this; omega
      have x2 : ∃ u, w2.cell? ⟨w.heap.size + 1, 0, none⟩ = some u := ⟨_, hp_cell (HI1.out.grow hgrow) (j := 0) (by rfl)⟩
      obtain ⟨u, x2⟩ := x2
      have f2 := hp_free (HI1.out.grow hgrow) 0
      have hl : (ms ++ [m]).length + (tlM k m).length ≤ 1000 := by simp; omega
      clear HI1 hown hown' hgrow x1 f1 hsz hsz2 hlen
      go_wp2_with fail
      go_loopw [7] (fun s7 wr => ∃ (n' : Nat) (v' : Value) (ms' : List Nat), s7 = .int .i64 n' ∧ n ≤ n' ∧ n' ≤ 8 ∧ FdI (.func (.func 61) #[] #[.pointer (some ⟨P, 0, none⟩), .pointer (some ⟨Q, 0, none⟩), .pointer (some ⟨R, 0, none⟩)]) w v' ms' wr ∧ ms' ++ (tlM (8 - n') m).filter P0 = (ms ++ [m]) ++ (tlM k m).filter P0 ∧ ms'.length + (tlM (8 - n') m).length ≤ 1000) (fun s7 _ => 8 - (intOf s7).toNat)
      case atStart => exact ⟨n, _, _, rfl, Nat.le_refl _, by omega, HI2.out, by rw [show 8 - n = k by omega], by rw [show 8 - n = k by omega]; omega⟩
      case round =>
        obtain ⟨n', v', ms', rfl, hn1, hn2, hI, heq, hle⟩ := hrel
        have HQ := Lib.hid heq
        have HIr := Lib.hid hI
        have HLE := Lib.hid hle
        clear HI2 heq hI hle
        by_cases hlt : n' < 8
        · have HW := Lib.hid (fun w => with_any m n' hm hlt w)
          have HT := Lib.hid (tlM_step hlt m)
          have hle2 := HLE.out
          rw [HT.out] at hle2
          simp only [List.length_append, List.length_cons] at hle2
          have hx := fun W h => IH.out (8 - (n' + 1)) (by omega) (m ||| 2 ^ n') (n' + 1) v' ms' W (by omega) (with_lt m hm n' hlt) (by omega) h
          have ec : (((n' + 1 : Nat)) : Int) = (n' : Int) + 1 := by omega
          simp only [ec] at hx
          have HX := Lib.hid hx
          clear hx ec
          have xe := hp_cell HIr.out.be (j := 0) (by rfl)
          go_wp2_with fail
          refine wp_region_held_drew (S := (fun w' => w'.cell? ⟨w.heap.size + 1 + 1, 0, none⟩ = some (.func (.func 118) #[] #[.pointer (some ⟨w.heap.size, 0, none⟩), .pointer (some ⟨w.heap.size + 1, 0, none⟩), .pointer (some ⟨w.heap.size + 1 + 1, 0, none⟩)]))) (by kernel_rfl) ?_ (fun hHeld => ?_)
          · exact xe
          refine wpAnyH_take (i := 0) (oi := ?oiy00) (v := ?vy00) ?hiy00 (by kernel_rfl) (by kernel_rfl) (by kernel_rfl) ?hqy00 ?hyy00 hHeld ?resty00
          case hiy00 => exact rfl
          case hqy00 => exact fun _ _ _ h => h
          case hyy00 =>
            refine Or.inl ⟨by rfl, ?_⟩
            intro w hSw
            (try dsimp only at hSw)
            go_simp
            (try with_reducible rfl)
          try simp only [Act.put, List.getElem_toArray, List.getElem_cons_succ, List.getElem_cons_zero, List.setIfInBounds_toArray, List.set_cons_zero, List.set_cons_succ]
          refine wpAnyH_take (i := 1) (oi := ?oiy01) (v := ?vy01) ?hiy01 (by kernel_rfl) (by kernel_rfl) (by kernel_rfl) ?hqy01 ?hyy01 hHeld ?resty01
          case hiy01 => exact rfl
          case hqy01 => exact fun _ _ _ h => h
          case hyy01 =>
            refine Or.inl ⟨by rfl, ?_⟩
            intro w hSw
            (try dsimp only at hSw)
            go_simp
            (try with_reducible rfl)
          try simp only [Act.put, List.getElem_toArray, List.getElem_cons_succ, List.getElem_cons_zero, List.setIfInBounds_toArray, List.set_cons_zero, List.set_cons_succ]
          refine wpAnyH_take (i := 2) (oi := ?oiy02) (v := ?vy02) ?hiy02 (by kernel_rfl) (by kernel_rfl) (by kernel_rfl) ?hqy02 ?hyy02 hHeld ?resty02
          case hiy02 => exact rfl
          case hqy02 => exact fun _ _ _ h => h
          case hyy02 =>
            refine Or.inl ⟨by rfl, ?_⟩
            intro w hSw
            (try dsimp only at hSw)
            go_simp
            (try with_reducible rfl)
          try simp only [Act.put, List.getElem_toArray, List.getElem_cons_succ, List.getElem_cons_zero, List.setIfInBounds_toArray, List.set_cons_zero, List.set_cons_succ]
          refine wpAnyH_take (i := 4) (oi := ?oiy04) (v := ?vy04) ?hiy04 (by kernel_rfl) (by kernel_rfl) (by kernel_rfl) ?hqy04 ?hyy04 hHeld ?resty04
          case hiy04 => exact rfl
          case hqy04 => exact fun _ _ _ h => h
          case hyy04 =>
            refine Or.inl ⟨by rfl, ?_⟩
            intro w hSw
            (try dsimp only at hSw)
            go_simp
            (try with_reducible rfl)
          try simp only [Act.put, List.getElem_toArray, List.getElem_cons_succ, List.getElem_cons_zero, List.setIfInBounds_toArray, List.set_cons_zero, List.set_cons_succ]
          refine wpAnyH_take (i := 5) (oi := ?oiy05) (v := ?vy05) ?hiy05 (by kernel_rfl) (by kernel_rfl) (by kernel_rfl) ?hqy05 ?hyy05 hHeld ?resty05
          case hiy05 => exact rfl
          case hqy05 => exact fun _ _ _ h => h
          case hyy05 =>
            refine Or.inl ⟨by rfl, ?_⟩
            intro w hSw
            (try dsimp only at hSw)
            go_simp
            (try with_reducible rfl)
          try simp only [Act.put, List.getElem_toArray, List.getElem_cons_succ, List.getElem_cons_zero, List.setIfInBounds_toArray, List.set_cons_zero, List.set_cons_succ]
          refine wpAnyH_ready (rs := [3]) (by kernel_rfl) (by simp) ?_
          refine AllReadyH.cons (o := ?ooy03) ?hoy03 ?hky03 AllReadyH.nil
          case hoy03 => exact rfl
          intro K hK
          go_simp
          refine (HW.out _).mono ?_
          rintro e wa ⟨rfl, rfl⟩
          refine hK.out _ _ ?_ (fun hHeld => ?_)
          · exact xe
          clear hK K
          try simp only [Act.put, List.getElem_toArray, List.getElem_cons_succ, List.getElem_cons_zero, List.setIfInBounds_toArray, List.set_cons_zero, List.set_cons_succ]
          refine wpAnyH_ready (rs := [6]) (by kernel_rfl) (by simp) ?_
          refine AllReadyH.cons (o := ?ooy06) ?hoy06 ?hky06 AllReadyH.nil
          case hoy06 => exact rfl
          intro K hK
          go_simp
          rw [IntWalk.i64_in ((n' : Int) + 1) (by omega)]
          refine (HX.out _ HIr.out.drew).mono ?_
          rintro e wa ⟨rfl, vn, hIn⟩
          refine hK.out _ _ ?_ (fun hHeld => ?_)
          · exact hp_cell hIn.be (j := 0) (by rfl)
          clear hK K
          try simp only [Act.put, List.getElem_toArray, List.getElem_cons_succ, List.getElem_cons_zero, List.setIfInBounds_toArray, List.set_cons_zero, List.set_cons_succ]
          refine wpAnyH_done (by kernel_rfl) ?_ _
          have HN := Lib.hid hIn
          clear hIn HIr HX xe
          go_wp2_with fail
          go_roundw
          case rel =>
            refine ⟨n' + 1, vn, _, by go_num, by omega, by omega, HN.out, ?_, ?_⟩
            · rw [← HQ.out, HT.out, List.filter_append, List.append_assoc]
            · have h1 := List.length_filter_le P0 ((m ||| 2 ^ n') :: tlM (8 - (n' + 1)) (m ||| 2 ^ n'))
              simp only [List.length_append, List.length_cons] at h1 ⊢
              omega
          case measure => simp [intOf]; omega
        · obtain rfl : n' = 8 := by omega
          have hq := HQ.out
          rw [show tlM (8 - 8) m = [] from rfl] at hq
          simp only [List.filter_nil, List.append_nil] at hq
          have HQ2 := Lib.hid hq
          clear hq
          go_wp2_with fail
          go_end0
          exact ⟨rfl, v', by rw [← HQ2.out]; exact HIr.out⟩

set_option maxRecDepth 100000 in
set_option maxHeartbeats 4000000 in
theorem find_M (P0 : Nat → Bool) (P Q R : Nat) (w : World)
    (hP : ∀ (m : Nat) (W : World), m < 256 → Below w.heap.size w W → Calls Tryz.prog 61 #[.int .u64 m, .pointer (some ⟨P, 0, none⟩), .pointer (some ⟨Q, 0, none⟩), .pointer (some ⟨R, 0, none⟩)] W fun e W' => e = .returned (.bool (P0 m)) ∧ Below W.heap.size W W') :
    Calls Tryz.prog 60 #[.func (.func 61) #[] #[.pointer (some ⟨P, 0, none⟩), .pointer (some ⟨Q, 0, none⟩), .pointer (some ⟨R, 0, none⟩)]] w (GivesMsk (enumM.filter P0) w) := by
  have HX := Lib.hid (fun W h => extend_M P0 P Q R w hP 8 0 0 (.slice none 0 0) [] W rfl (by decide) (by decide) h)
  clear hP
  go_enter Tryz.func60, Tryz.ntmps60
  go_wp2_with fail
  have hI0 : FdI (.func (.func 61) #[] #[.pointer (some ⟨P, 0, none⟩), .pointer (some ⟨Q, 0, none⟩), .pointer (some ⟨R, 0, none⟩)]) w (.slice none 0 0) [] (((w.alloc (.cells #[.func (.func 61) #[] #[.pointer (some ⟨P, 0, none⟩), .pointer (some ⟨Q, 0, none⟩), .pointer (some ⟨R, 0, none⟩)]] 92)).alloc (.cells #[.slice none 0 0] 85)).alloc (.cells #[.func (.func 118) #[] #[.pointer (some ⟨w.heap.size, 0, none⟩), .pointer (some ⟨w.heap.size + 1, 0, none⟩), .pointer (some ⟨w.heap.size + 1 + 1, 0, none⟩)]] 142)) :=
    ⟨hp_alloc (hp_alloc (hp_new rfl)), hp_alloc (hp_new (by simp)), hp_new (by simp), World.ownsRow_nil _ _ _ _, (((Below.refl _ _).alloc (Nat.le_refl _) _).alloc (by simp) _).alloc (by simp; omega) _⟩
  refine (HX.out _ hI0).mono ?_
  rintro e w1 ⟨rfl, v', hI⟩
  have e1 : [] ++ (0 :: tlM 8 0).filter P0 = enumM.filter P0 := rfl
  rw [e1] at hI
  obtain ⟨va, vc, rfl⟩ := own_slice hI.out
  have x1 := hp_cell hI.bv (j := 0) (by rfl)
  have HM := Lib.hid (msk_of_own hI.out)
  have HB := Lib.hid hI.below
  clear hI hI0 HX e1
  go_wp2_with fail
  go_ret
  exact ⟨va, vc, rfl, HM.out.1, HB.out⟩

end Go.Proofs.YtigaklppdlknkaaGreat

/- Blamed of blame: contracts. -/
set_option linter.unusedVariables false
set_option linter.unusedSimpArgs false
namespace Go.Proofs.YtigaklppdlknkaaGreat
open Go.RowKit Tinker

/-- Whether a set of lines is one of those asked for. -/
def bmB (ps : List L) (ws : List T) (size : Int) (m : Nat) : Bool := (((numsM m).length : Int) == size) && ((lnC ps (numsM m) == 0) && capB ps ws (numsM m))

set_option maxRecDepth 100000 in
set_option maxHeartbeats 2000000 in
theorem clos_blamed (w0 : World) (P Q R : Nat) (a g : Option Addr) (ca cg : Nat) (ps : List L) (ws : List T) (size : Int) (hP : w0.cell? ⟨P, 0, none⟩ = some (.int .i64 size)) (hPl : P < w0.heap.size) (hQ : w0.cell? ⟨Q, 0, none⟩ = some (.slice a ps.length ca)) (hQl : Q < w0.heap.size) (hR : w0.cell? ⟨R, 0, none⟩ = some (.slice g ws.length cg)) (hRl : R < w0.heap.size)
    (hp : LinesAt w0 a ps) (hts : TestsAt w0 g ws) (hT : ∀ t ∈ ws, isT t = true) (hm2 : ws.length ≤ 1000) (hm3 : ps.length ≤ 1000) (m : Nat) (W : World) (hm : m < 256) (hB : Below w0.heap.size w0 W) :
    Calls Tryz.prog 61 #[.int .u64 m, .pointer (some ⟨P, 0, none⟩), .pointer (some ⟨Q, 0, none⟩), .pointer (some ⟨R, 0, none⟩)] W fun e w' => e = .returned (.bool (bmB ps ws size m)) ∧ Below W.heap.size W w' := by
  have h8 := numsM_len m
  have HN := Lib.hid (numbers_any m hm W)
  have HV := Lib.hid (fun b c w hp hl => validateLines_any a b ca c ps (numsM m) w hp hl (by omega) hm3)
  have HC := Lib.hid (fun d c w hp hts hl => canPassAll_any a g d ca cg c ps ws (numsM m) w hp hts hl hT h8 hm2)
  have HB := Lib.hid hB
  have C1 := Lib.hid (fun (w1 : World) (h : Below W.heap.size W w1) => ((hB.trans (h.mono hB.size)).cell (p := ⟨P, 0, none⟩) hPl).trans hP)
  have C2 := Lib.hid (fun (w1 : World) (h : Below W.heap.size W w1) => ((hB.trans (h.mono hB.size)).cell (p := ⟨Q, 0, none⟩) hQl).trans hQ)
  have C3 := Lib.hid (fun (w1 : World) (h : Below W.heap.size W w1) => ((hB.trans (h.mono hB.size)).cell (p := ⟨R, 0, none⟩) hRl).trans hR)
  have L1 := Lib.hid (fun (w1 : World) (h : Below W.heap.size W w1) => hp.below (hB.trans (h.mono hB.size)) (Nat.le_refl _))
  have L2 := Lib.hid (fun (w1 : World) (h : Below W.heap.size W w1) => hts.below (hB.trans (h.mono hB.size)) (Nat.le_refl _))
  unfold bmB
  generalize capB ps ws (numsM m) = U at HC ⊢
  generalize lnC ps (numsM m) = c at HV ⊢
  clear hP hQ hR hp hts hT hB hPl hQl hRl
  generalize hzs : numsM m = zs at HN HV HC h8 ⊢
  clear hzs
  by_cases hs : (zs.length : Int) = size
  · have hs1 : ((zs.length : Int) == size) = true := by simpa using hs
    rw [hs1, Bool.true_and]
    by_cases hc : c = 0
    · subst hc
      rw [show ((0 : Int) == 0) = true from rfl, Bool.true_and]
      clear hs
      go_enter Tryz.func61, Tryz.ntmps61
      go_wp2_with fail
      refine HN.out.mono ?_
      rintro e w1 ⟨a1, c1, rfl, ho, hB1⟩
      have HI := Lib.hid (ints_of_own ho).1
      have HB1 := Lib.hid hB1
      have x1 := C1.out _ hB1
      have x2 := C2.out _ hB1
      clear ho hB1
      go_wp2_with fail
      refine (HV.out _ _ _ (L1.out _ HB1.out) HI.out).mono ?_
      rintro e w2 ⟨rfl, hB2⟩
      have HI2 := Lib.hid (HI.out.below hB2 (Nat.le_refl _))
      have HB2 := Lib.hid (HB1.out.trans (hB2.mono HB1.out.size))
      clear hB2 x1 x2 HI HB1
      have x2 := C2.out _ HB2.out
      have x3 := C3.out _ HB2.out
      go_wp2_with fail
      refine (HC.out _ _ _ (L1.out _ HB2.out) (L2.out _ HB2.out) HI2.out).mono ?_
      rintro e w3 ⟨rfl, hB3⟩
      go_wp2_with fail
      go_ret
      exact ⟨rfl, HB2.out.trans (hB3.mono HB2.out.size)⟩
    · have hc1 : (c == 0) = false := by simpa using hc
      rw [hc1, Bool.false_and]
      clear hs hc
      go_enter Tryz.func61, Tryz.ntmps61
      go_wp2_with fail
      refine HN.out.mono ?_
      rintro e w1 ⟨a1, c1, rfl, ho, hB1⟩
      have HI := Lib.hid (ints_of_own ho).1
      have HB1 := Lib.hid hB1
      have x1 := C1.out _ hB1
      have x2 := C2.out _ hB1
      clear ho hB1
      go_wp2_with fail
      refine (HV.out _ _ _ (L1.out _ HB1.out) HI.out).mono ?_
      rintro e w2 ⟨rfl, hB2⟩
      have HB2 := Lib.hid (HB1.out.trans (hB2.mono HB1.out.size))
      clear hB2
      go_wp2_with fail
      go_ret
      exact ⟨rfl, HB2.out⟩
  · have hs1 : ((zs.length : Int) == size) = false := by simpa using hs
    rw [hs1, Bool.false_and]
    clear hs
    go_enter Tryz.func61, Tryz.ntmps61
    go_wp2_with fail
    refine HN.out.mono ?_
    rintro e w1 ⟨a1, c1, rfl, ho, hB1⟩
    have HB1 := Lib.hid hB1
    have x1 := C1.out _ hB1
    clear ho hB1
    go_wp2_with fail
    go_ret
    exact ⟨rfl, HB1.out⟩

/-- What Blamed answers. -/
def bmC (ps : List L) (ts : List T) (size : Int) : Int := if vpt ps ts = 0 then (if btw size 1 2 = true then 0 else 1) else vpt ps ts
def bmL (ps : List L) (ts : List T) (size : Int) : List (List Int) := if bmC ps ts size = 0 then (enumM.filter (bmB ps (fT ps ts) size)).map numsM else []
theorem enum_len : enumM.length = 256 := by decide +kernel
theorem vts_ok' {ts : List T} (h : vts ts = 0) : ts.length ≤ 8 ∧ ∀ t ∈ ts, isT t = true := vts_ok h

/-- The boxes of Blamed. -/
structure BmI (a : Option Addr) (n ca : Nat) (size : Int) (w W : World) : Prop where
  bp : W.heap[w.heap.size]? = some (.cells #[.slice a n ca] 22 (0, 0))
  bs : W.heap[w.heap.size + 1]? = some (.cells #[.int .i64 size] 3 (0, 0))
  below : Below w.heap.size w W
theorem BmI.low {a : Option Addr} {n ca : Nat} {size : Int} {w W W' : World} (h : BmI a n ca size w W) (hb : Below W.heap.size W W') : BmI a n ca size w W' :=
  ⟨hp_below h.bp hb (hp_lt h.bp), hp_below h.bs hb (hp_lt h.bs), h.below.trans (hb.mono h.below.size)⟩

set_option maxRecDepth 100000 in
set_option maxHeartbeats 4000000 in
theorem Blamed_any (a g : Option Addr) (ca cg : Nat) (ps : List L) (ts : List T) (size : Int) (w : World) (hp : LinesAt w a ps) (hts : TestsAt w g ts) (hm : ts.length ≤ 1000) (hml : ∀ t ∈ ts, t.inn.length ≤ 1000) :
    Calls Tryz.prog 13 #[.slice a ps.length ca, .slice g ts.length cg, .int .i64 size] w (GivesRowsBE (bmL ps ts size) (bmC ps ts size) w) := by
  have HV := Lib.hid (fun w hp hts => validateTestsB_any a g ca cg ps ts w hp hts hm hml)
  have HP := Lib.hid hp
  have HT := Lib.hid hts
  have hI0 : BmI a ps.length ca size w ((w.alloc (.cells #[.slice a ps.length ca] 22)).alloc (.cells #[.int .i64 size] 3)) := ⟨hp_alloc (hp_new rfl), hp_new (by simp), ((Below.refl _ _).alloc (Nat.le_refl _) _).alloc (by simp) _⟩
  have x0 := hp_cell hI0.bp (j := 0) (by rfl)
  have HI0 := Lib.hid hI0
  clear hI0 hp hts
  by_cases hz : vpt ps ts = 0
  · have hz0 := hz
    obtain ⟨h1, h2⟩ := vpt_ok hz
    obtain ⟨t8, hTv⟩ := vts_ok h2
    rw [hz] at HV
    have HC := Lib.hid (show bmC ps ts size = if btw size 1 2 = true then 0 else 1 by unfold bmC; rw [if_pos hz])
    have HIB := Lib.hid (fun w => isBetween_any size 1 2 w)
    cases hb : btw size 1 2
    · rw [hb] at HC HIB
      have e1 : bmC ps ts size = 1 := HC.out
      have e2 : bmL ps ts size = [] := by unfold bmL; rw [if_neg (by omega)]
      rw [e1, e2]
      clear e1 e2 hz hz0 hb h1 h2 hTv
      go_enter Tryz.func13, Tryz.ntmps13
      go_wp2_with fail
      refine (HV.out _ (HP.out.below HI0.out.below (Nat.le_refl _)) (HT.out.below HI0.out.below (Nat.le_refl _))).mono ?_
      rintro e w1 ⟨rfl, hB⟩
      have HI1 := Lib.hid (HI0.out.low hB)
      clear hB HI0 x0
      have x1 := hp_cell HI1.out.bs (j := 0) (by rfl)
      go_wp2_with fail
      refine (HIB.out _).mono ?_
      rintro e w2 ⟨rfl, rfl⟩
      go_wp2_with fail
      go_ret2
      exact givesRowsBE_nil HI1.out.below
    · rw [hb] at HC HIB
      have e1 : bmC ps ts size = 0 := HC.out
      have e2 : bmL ps ts size = (enumM.filter (bmB ps (fT ps ts) size)).map numsM := by unfold bmL; rw [if_pos e1]
      rw [e1, e2]
      have HF := Lib.hid (fun w hp hts => failingT_any a g ca cg ps ts w hp hts hm hml)
      have hlen : (fT ps ts).length ≤ 8 := by have := pL_len false ps ts; unfold fT; rw [List.length_map]; omega
      have hv8 := (vp_ok h1).1
      have HTW : ∀ t ∈ fT ps ts, isT t = true := fun t ht => hTv t (fT_mem ht)
      have HFD := Lib.hid (fun (w1 : World) (g' : Option Addr) (cg' : Nat) (hI : BmI a ps.length ca size w w1) (hts : TestsAt w1 g' (fT ps ts)) (w2 : World) (e2 : w2 = w1.alloc (.cells #[.slice g' (fT ps ts).length cg'] 23)) =>
        show Calls Tryz.prog 60 #[.func (.func 61) #[] #[.pointer (some ⟨w.heap.size + 1, 0, none⟩), .pointer (some ⟨w.heap.size, 0, none⟩), .pointer (some ⟨w1.heap.size, 0, none⟩)]] w2 (GivesMsk (enumM.filter (bmB ps (fT ps ts) size)) w2) by
          have hI2 : BmI a ps.length ca size w w2 := by rw [e2]; exact hI.low ((Below.refl _ _).alloc (Nat.le_refl _) _)
          have hbx : w2.heap[w1.heap.size]? = some (.cells #[.slice g' (fT ps ts).length cg'] 23 (0, 0)) := by rw [e2]; exact hp_new rfl
          have ht2 : TestsAt w2 g' (fT ps ts) := by rw [e2]; exact hts.below ((Below.refl _ _).alloc (Nat.le_refl _) _) (Nat.le_refl _)
          exact find_M _ _ _ _ w2 (fun m W hm hB => clos_blamed w2 (w.heap.size + 1) w.heap.size w1.heap.size a g' ca cg' ps (fT ps ts) size (hp_cell hI2.bs rfl) (hp_lt hI2.bs) (hp_cell hI2.bp rfl) (hp_lt hI2.bp) (hp_cell hbx rfl) (hp_lt hbx) (HP.out.below hI2.below (Nat.le_refl _)) ht2 HTW (by omega) (by omega) m W hm hB))
      have HFA := Lib.hid (fun b c w h => family_any b c (enumM.filter (bmB ps (fT ps ts) size)) w h (fun m hm => enum_lt m (List.filter_sublist.subset hm)) (by have := List.length_filter_le (bmB ps (fT ps ts) size) enumM; have := enum_len; omega))
      generalize enumM.filter (bmB ps (fT ps ts) size) = Z at HFD HFA ⊢
      generalize fT ps ts = ws at HF HFD
      clear e1 e2 hz hz0 hb h1 h2 hTv hlen HTW hv8
      go_enter Tryz.func13, Tryz.ntmps13
      go_wp2_with fail
      refine (HV.out _ (HP.out.below HI0.out.below (Nat.le_refl _)) (HT.out.below HI0.out.below (Nat.le_refl _))).mono ?_
      rintro e w1 ⟨rfl, hB⟩
      have HI1 := Lib.hid (HI0.out.low hB)
      clear hB HI0 x0
      have x0 := hp_cell HI1.out.bp (j := 0) (by rfl)
      have x1 := hp_cell HI1.out.bs (j := 0) (by rfl)
      go_wp2_with fail
      refine (HIB.out _).mono ?_
      rintro e w2 ⟨rfl, rfl⟩
      go_wp2_with fail
      refine (HF.out _ (HP.out.below HI1.out.below (Nat.le_refl _)) (HT.out.below HI1.out.below (Nat.le_refl _))).mono ?_
      rintro e w3 ⟨g3, c3, rfl, h3, hB3⟩
      have HI3 := Lib.hid (HI1.out.low hB3)
      have HT3 := Lib.hid h3
      clear h3 hB3 HI1 x0 x1
      go_wp2_with fail
      refine (HFD.out _ _ _ HI3.out HT3.out _ rfl).mono ?_
      rintro e w4 ⟨a4, c4, rfl, h4, hB4⟩
      have HM4 := Lib.hid h4
      have HB4 := Lib.hid ((HI3.out.low ((Below.refl _ _).alloc (Nat.le_refl _) _)).below.trans (hB4.mono (by have := HI3.out.below.size; simp; omega)))
      clear h4 hB4
      go_wp2_with fail
      refine (HFA.out _ _ _ HM4.out).mono ?_
      rintro e w5 ⟨a5, c5, rfl, h5, hB5⟩
      have HR5 := Lib.hid (h5.wide HB4.out.size)
      have HB5 := Lib.hid (HB4.out.trans (hB5.mono HB4.out.size))
      clear h5 hB5
      go_wp2_with fail
      go_ret2
      exact ⟨a5, c5, by rw [List.length_map]; rfl, HR5.out, HB5.out⟩
  · have e1 : bmC ps ts size = vpt ps ts := by unfold bmC; rw [if_neg hz]
    have e2 : bmL ps ts size = [] := by unfold bmL; rw [if_neg (by omega)]
    rw [e1, e2]
    clear e1 e2
    generalize vpt ps ts = c at HV hz ⊢
    have hz1 : (c != 0) = true := by simpa using hz
    have hz2 : (c == 0) = false := by simpa using hz
    clear hz
    go_enter Tryz.func13, Tryz.ntmps13
    go_wp2_with fail
    refine (HV.out _ (HP.out.below HI0.out.below (Nat.le_refl _)) (HT.out.below HI0.out.below (Nat.le_refl _))).mono ?_
    rintro e w1 ⟨rfl, hB⟩
    have HI1 := Lib.hid (HI0.out.low hB)
    clear hB HI0 x0
    go_wp2_with fail
    go_ret2
    exact givesRowsBE_nil HI1.out.below

end Go.Proofs.YtigaklppdlknkaaGreat

/- What the law of layer 3 knows: the document's own example. -/
set_option linter.unusedVariables false
set_option linter.unusedSimpArgs false
namespace Go.Proofs.YtigaklppdlknkaaGreat
open Go.RowKit Tinker

set_option maxRecDepth 100000 in
theorem k3_blk : blkL [[0, 1], [1, 2]] = [[0, 2], [1]] ∧ vfam [[0, 1], [1, 2]] = 0 := by decide +kernel
set_option maxRecDepth 100000 in
theorem k3_bm : bmL [⟨1, 0, 3, 0⟩, ⟨3, 0, 0, 0⟩] [⟨[0, 0, 0, 0], 0, 7⟩] 1 = [[1]] ∧ bmC [⟨1, 0, 3, 0⟩, ⟨3, 0, 0, 0⟩] [⟨[0, 0, 0, 0], 0, 7⟩] 1 = 0 := by decide +kernel
theorem rows_two {w : World} {x y z : Nat} {t : TypeId} {a b : List Int} {ca cb : Nat} (hz : w.heap[z]? = some (.cells #[.slice (some ⟨x, 0, none⟩) a.length ca, .slice (some ⟨y, 0, none⟩) b.length cb] t (0, 0))) (ha : IntsAt w (some ⟨x, 0, none⟩) a) (hb : IntsAt w (some ⟨y, 0, none⟩) b) : RowsAt w (some ⟨z, 0, none⟩) [a, b] :=
  .inr ⟨z, 0, rfl, hp_lt hz, fun j zs hj => by
    match j, hj with
    | 0, hj => simp at hj; subst hj; exact ⟨_, _, hp_cell hz rfl, ha⟩
    | 1, hj => simp at hj; subst hj; exact ⟨_, _, hp_cell hz rfl, hb⟩
    | j + 2, hj => simp at hj⟩
theorem rows_one {w : World} {x z : Nat} {t : TypeId} {a : List Int} {ca : Nat} (hz : w.heap[z]? = some (.cells #[.slice (some ⟨x, 0, none⟩) a.length ca] t (0, 0))) (ha : IntsAt w (some ⟨x, 0, none⟩) a) : RowsAt w (some ⟨z, 0, none⟩) [a] :=
  .inr ⟨z, 0, rfl, hp_lt hz, fun j zs hj => by
    match j, hj with
    | 0, hj => simp at hj; subst hj; exact ⟨_, _, hp_cell hz rfl, ha⟩
    | j + 1, hj => simp at hj⟩

theorem exBlocker (W : World) (b : Addr) (h : RowsAt W (some b) [[0, 1], [1, 2]]) :
    Calls Tryz.prog 40 #[.slice (some b) 2 2] W fun e w' => ∃ a c, e = .returned (.tuple #[.slice a 2 c, .int .i64 0]) ∧ RowsAt w' a [[0, 2], [1]] ∧ Below W.heap.size W w' := by
  have h := Blocker_any (some b) 2 [[0, 1], [1, 2]] W h (by decide)
  rw [k3_blk.1, k3_blk.2] at h
  refine h.mono ?_
  rintro e w' ⟨a, c, h1, h2, h3⟩
  exact ⟨a, c, h1, h2.at_, h3⟩
theorem exBlamed (W : World) (b c : Addr) (h : LinesAt W (some b) [⟨1, 0, 3, 0⟩, ⟨3, 0, 0, 0⟩]) (h2 : TestsAt W (some c) [⟨[0, 0, 0, 0], 0, 7⟩]) :
    Calls Tryz.prog 13 #[.slice (some b) 2 2, .slice (some c) 1 1, .int .i64 1] W fun e w' => ∃ a c, e = .returned (.tuple #[.slice a 1 c, .int .i64 0]) ∧ RowsAt w' a [[1]] ∧ Below W.heap.size W w' := by
  have h := Blamed_any (some b) (some c) 2 1 [⟨1, 0, 3, 0⟩, ⟨3, 0, 0, 0⟩] [⟨[0, 0, 0, 0], 0, 7⟩] 1 W h h2 (by decide) (by decide)
  rw [k3_bm.1, k3_bm.2] at h
  refine h.mono ?_
  rintro e w' ⟨a, c, h1, h2, h3⟩
  exact ⟨a, c, h1, h2.at_, h3⟩
theorem k3_lines (w : World) (t : TypeId) : LinesAt (w.alloc (.cells #[.int .i64 1, .int .i64 0, .int .i64 3, .int .i64 0, .int .i64 3, .int .i64 0, .int .i64 0, .int .i64 0] t)) (some ⟨w.heap.size, 0, none⟩) [⟨1, 0, 3, 0⟩, ⟨3, 0, 0, 0⟩] :=
  .inr ⟨w.heap.size, 0, rfl, by simp, fun j l hj => by
    match j, hj with
    | 0, hj => simp at hj; subst hj; exact ⟨hp_cell (hp_new rfl) rfl, hp_cell (hp_new rfl) rfl, hp_cell (hp_new rfl) rfl, hp_cell (hp_new rfl) rfl⟩
    | 1, hj => simp at hj; subst hj; exact ⟨hp_cell (hp_new rfl) rfl, hp_cell (hp_new rfl) rfl, hp_cell (hp_new rfl) rfl, hp_cell (hp_new rfl) rfl⟩
    | j + 2, hj => simp at hj⟩
theorem k3_tests {w : World} {n : Nat} {t : TypeId} {m : Nat} (hm : w.heap.size = m) (h : IntsAt w (some ⟨n, 0, none⟩) [0, 0, 0, 0]) : TestsAt (w.alloc (.cells #[.slice (some ⟨n, 0, none⟩) 4 4, .int .i64 0, .int .i64 7] t)) (some ⟨m, 0, none⟩) [⟨[0, 0, 0, 0], 0, 7⟩] := by
  subst hm
  refine .inr ⟨w.heap.size, 0, rfl, by simp, fun j t' hj' => ?_⟩
  match j, hj' with
  | 0, hj' => simp at hj'; subst hj'; exact ⟨_, 4, hp_cell (hp_new rfl) rfl, hp_cell (hp_new rfl) rfl, hp_cell (hp_new rfl) rfl, h.below ((Below.refl _ _).alloc (Nat.le_refl _) _) (Nat.le_refl _)⟩
  | j + 1, hj' => simp at hj'

set_option maxRecDepth 100000 in
set_option maxHeartbeats 2000000 in
theorem known3_true (w : World) : Calls Tryz.prog 12 #[] w fun e w' => e = .returned (.bool true) ∧ Below w.heap.size w w' := by
  have hR0 : RowsAt (((w.alloc (.cells #[.int .i64 0, .int .i64 1] 3)).alloc (.cells #[.int .i64 1, .int .i64 2] 3)).alloc (.cells #[.slice (some ⟨w.heap.size, 0, none⟩) 2 2, .slice (some ⟨w.heap.size + 1, 0, none⟩) 2 2] 34)) (some ⟨w.heap.size + 1 + 1, 0, none⟩) [[0, 1], [1, 2]] :=
    rows_two (a := [0, 1]) (b := [1, 2]) (hp_new (by simp)) (((ints_lit w [0, 1] 3).below ((Below.refl _ _).alloc (Nat.le_refl _) _) (Nat.le_refl _)).below ((Below.refl _ _).alloc (Nat.le_refl _) _) (Nat.le_refl _)) ((ints_lit' (zs := [1, 2]) (by simp)).below ((Below.refl _ _).alloc (Nat.le_refl _) _) (Nat.le_refl _))
  have hB0 : Below w.heap.size w (((w.alloc (.cells #[.int .i64 0, .int .i64 1] 3)).alloc (.cells #[.int .i64 1, .int .i64 2] 3)).alloc (.cells #[.slice (some ⟨w.heap.size, 0, none⟩) 2 2, .slice (some ⟨w.heap.size + 1, 0, none⟩) 2 2] 34)) := (((Below.refl _ _).alloc (Nat.le_refl _) _).alloc (by simp) _).alloc (by simp; omega) _
  have HR0 := Lib.hid hR0
  have HB0 := Lib.hid hB0
  clear hR0 hB0
  go_enter Tryz.func12, Tryz.ntmps12
  go_wp2_with fail
  refine (exBlocker _ _ HR0.out).mono ?_
  rintro e w1 ⟨a1, c1, rfl, h1, hB1⟩
  have HR1 := Lib.hid h1
  have HB1 := Lib.hid (HB0.out.trans (hB1.mono HB0.out.size))
  clear h1 hB1 HR0 HB0
  go_wp2_with fail
  have hB2 : Below w1.heap.size w1 (((w1.alloc (.cells #[.int .i64 1, .int .i64 0, .int .i64 3, .int .i64 0, .int .i64 3, .int .i64 0, .int .i64 0, .int .i64 0] 70)).alloc (.cells #[.int .i64 0, .int .i64 0, .int .i64 0, .int .i64 0] 3)).alloc (.cells #[.slice (some ⟨w1.heap.size + 1, 0, none⟩) 4 4, .int .i64 0, .int .i64 7] 60)) := (((Below.refl _ _).alloc (Nat.le_refl _) _).alloc (by simp) _).alloc (by simp; omega) _
  refine (exBlamed _ _ _ ?_ ?_).mono ?_
  · exact ((k3_lines w1 70).below ((Below.refl _ _).alloc (Nat.le_refl _) _) (Nat.le_refl _)).below ((Below.refl _ _).alloc (Nat.le_refl _) _) (Nat.le_refl _)
  · exact k3_tests (by simp) (ints_lit' (zs := [0, 0, 0, 0]) (by simp))
  rintro e w2 ⟨a2, c2, rfl, h2, hB3⟩
  have hBB := hB2.trans (hB3.mono hB2.size)
  have HR2 := Lib.hid h2
  have HR1' := Lib.hid (HR1.out.below hBB (Nat.le_refl _))
  have HB2 := Lib.hid (HB1.out.trans (hBB.mono HB1.out.size))
  clear h2 hB3 hB2 hBB HR1 HB1
  go_wp2_with fail
  have hB4 : Below w2.heap.size w2 (((w2.alloc (.cells #[.int .i64 0, .int .i64 2] 3)).alloc (.cells #[.int .i64 1] 3)).alloc (.cells #[.slice (some ⟨w2.heap.size, 0, none⟩) 2 2, .slice (some ⟨w2.heap.size + 1, 0, none⟩) 1 1] 34)) := (((Below.refl _ _).alloc (Nat.le_refl _) _).alloc (by simp) _).alloc (by simp; omega) _
  refine (sameLists_self 2 _ _ _ _ [[0, 2], [1]] _ rfl (HR1'.out.below hB4 (Nat.le_refl _)) ?_ (by decide) (by decide)).mono ?_
  · exact rows_two (a := [0, 2]) (b := [1]) (hp_new (by simp)) (((ints_lit w2 [0, 2] 3).below ((Below.refl _ _).alloc (Nat.le_refl _) _) (Nat.le_refl _)).below ((Below.refl _ _).alloc (Nat.le_refl _) _) (Nat.le_refl _)) ((ints_lit' (zs := [1]) (by simp)).below ((Below.refl _ _).alloc (Nat.le_refl _) _) (Nat.le_refl _))
  rintro e w3 ⟨rfl, hB5⟩
  have hBB := hB4.trans (hB5.mono hB4.size)
  have HR3 := Lib.hid (HR2.out.below hBB (Nat.le_refl _))
  have HB3 := Lib.hid (HB2.out.trans (hBB.mono HB2.out.size))
  clear hB4 hB5 hBB HR1' HR2 HB2
  go_wp2_with fail
  have hB6 : Below w3.heap.size w3 ((w3.alloc (.cells #[.int .i64 1] 3)).alloc (.cells #[.slice (some ⟨w3.heap.size, 0, none⟩) 1 1] 34)) := ((Below.refl _ _).alloc (Nat.le_refl _) _).alloc (by simp) _
  refine (sameLists_self 1 _ _ _ _ [[1]] _ rfl (HR3.out.below hB6 (Nat.le_refl _)) ?_ (by decide) (by decide)).mono ?_
  · exact rows_one (a := [1]) (hp_new (by simp)) ((ints_lit w3 [1] 3).below ((Below.refl _ _).alloc (Nat.le_refl _) _) (Nat.le_refl _))
  rintro e w4 ⟨rfl, hB7⟩
  have hBB := hB6.trans (hB7.mono hB6.size)
  have HB4 := Lib.hid (HB3.out.trans (hBB.mono HB3.out.size))
  clear hB6 hB7 hBB
  go_wp2_with fail
  go_ret
  exact ⟨rfl, HB4.out⟩

end Go.Proofs.YtigaklppdlknkaaGreat
