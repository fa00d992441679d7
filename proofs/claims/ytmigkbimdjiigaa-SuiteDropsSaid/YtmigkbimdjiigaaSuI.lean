/- Several texts in one. -/
import Derived.Test.YtmigkbimdjiigaaSuC
import Derived.Test.YtmigkbimdjiigaaSuE
/- The memory of the search over all sets of kit. -/
set_option linter.unusedVariables false
set_option linter.unusedSimpArgs false
namespace Tinker
/-- What the search comes to behind a set, with the last d of n numbers still open; all sets, in ascending order. -/
def tlK (n : Nat) : Nat → Nat → List Nat
  | 0, _ => []
  | d + 1, m => ((m ||| 2 ^ (n - (d + 1))) :: tlK n d (m ||| 2 ^ (n - (d + 1)))) ++ tlK n d m
def enumK (n : Nat) : List Nat := 0 :: tlK n n 0
theorem tlK_step {N n : Nat} (h : n < N) (m : Nat) : tlK N (N - n) m = ((m ||| 2 ^ n) :: tlK N (N - (n + 1)) (m ||| 2 ^ n)) ++ tlK N (N - (n + 1)) m := by
  obtain ⟨d, hd⟩ : ∃ d, N - n = d + 1 := ⟨N - n - 1, by omega⟩
  rw [hd, show N - (n + 1) = d by omega, tlK, show N - (d + 1) = n by omega]
theorem tlK_len (n : Nat) : ∀ d m, (tlK n d m).length = 2 ^ d - 1
  | 0, _ => rfl
  | d + 1, m => by
    rw [tlK, List.length_append, List.length_cons, tlK_len n d, tlK_len n d, Nat.pow_succ]
    have := Nat.one_le_two_pow (n := d)
    omega
end Tinker
namespace Go.Proofs.Ytmigkbimdjiigaa
open Go.RowKit Tinker

theorem own_otherK {w : World} {base n size : Nat} {e : TypeId} {v : Value} {xs : List Value} (h : w.ownsRow base e size v n xs) {M : Nat} (hM : M < base) (j : Nat) (u : Value) : (w.setCell ⟨M, j, none⟩ u).ownsRow base e size v n xs := by
  refine ⟨h.1, ?_⟩
  rcases h.2 with hn | ⟨g, cap, cur, rfl, hbg, hg, rest⟩
  · exact .inl hn
  · exact .inr ⟨g, cap, cur, rfl, hbg, hp_set hg (p := ⟨M, j, none⟩) (by show g ≠ M; omega) _, rest⟩
/-- The memory of Find: how many numbers, the function, what is found, the function that goes on. -/
structure FdK (N : Nat) (f : Value) (w : World) (v : Value) (ms : List Nat) (W : World) : Prop where
  bn : W.heap[w.heap.size]? = some (.cells #[.int .i64 (N : Int)] 3 (0, 0))
  bf : W.heap[w.heap.size + 1]? = some (.cells #[f] 63 (0, 0))
  bv : W.heap[w.heap.size + 1 + 1]? = some (.cells #[v] 52 (0, 0))
  be : W.heap[w.heap.size + 1 + 1 + 1]? = some (.cells #[.func (.func 111) #[] #[.pointer (some ⟨w.heap.size + 1, 0, none⟩), .pointer (some ⟨w.heap.size + 1 + 1, 0, none⟩), .pointer (some ⟨w.heap.size, 0, none⟩), .pointer (some ⟨w.heap.size + 1 + 1 + 1, 0, none⟩)]] 96 (0, 0))
  out : W.ownsRow (w.heap.size + 4) 51 1 v ms.length (uv ms)
  below : Below w.heap.size w W
theorem FdK.size {N : Nat} {f : Value} {w : World} {v : Value} {ms : List Nat} {W : World} (h : FdK N f w v ms W) : w.heap.size + 4 ≤ W.heap.size := by have := hp_lt h.be; omega
theorem FdK.low {N : Nat} {f : Value} {w : World} {v : Value} {ms : List Nat} {W W' : World} (h : FdK N f w v ms W) (hb : Below W.heap.size W W') : FdK N f w v ms W' :=
  ⟨hp_below h.bn hb (hp_lt h.bn), hp_below h.bf hb (hp_lt h.bf), hp_below h.bv hb (hp_lt h.bv), hp_below h.be hb (hp_lt h.be), own_below h.out hb (Nat.le_refl _), h.below.trans (hb.mono h.below.size)⟩
theorem FdK.drew {N : Nat} {f : Value} {w : World} {v : Value} {ms : List Nat} {W : World} (h : FdK N f w v ms W) : FdK N f w v ms W.drew := h.low (Below.refl _ _).drew
theorem FdK.grow {N : Nat} {f : Value} {w : World} {v : Value} {ms : List Nat} {W W3 : World} {o : Obj} (h : FdK N f w v ms W) (hg : (W.alloc o).grownBy W3 v.ownBlock) : W3.heap[w.heap.size + 1 + 1]? = some (.cells #[v] 52 (0, 0)) := by
  have hs := h.size
  refine (hg.block _ (by simp; omega) (fun e => ?_)).trans (hp_alloc h.bv)
  have := (h.out.lt _ e.symm).1
  omega
theorem FdK.push {N : Nat} {f : Value} {w : World} {v v' : Value} {ms : List Nat} {m : Nat} {W W3 : World} {o : Obj} (h : FdK N f w v ms W) (hown : W3.ownsRow (w.heap.size + 4) 51 1 v' (ms.length + 1) (uv ms ++ [.int .u64 m])) (hg : (W.alloc o).grownBy W3 v.ownBlock) :
    FdK N f w v' (ms ++ [m]) (W3.setCell ⟨w.heap.size + 1 + 1, 0, none⟩ v') := by
  have hs := h.size
  have hb : Below w.heap.size w W3 := ((h.below.alloc h.below.size o)).grown hg (by simp; omega) (fun k hk => by have := (h.out.lt k hk).1; omega)
  have hk : ∀ i, i < w.heap.size + 4 → W3.heap[i]? = W.heap[i]? := fun i hi => by
    rw [hg.block i (by simp; omega) (fun e => by have := (h.out.lt _ e.symm).1; omega)]
    exact Below.heap_alloc W o i (by omega)
  refine ⟨hp_set ((hk _ (by omega)).trans h.bn) (p := ⟨w.heap.size + 1 + 1, 0, none⟩) (by show w.heap.size ≠ w.heap.size + 1 + 1; omega) _, hp_set ((hk _ (by omega)).trans h.bf) (p := ⟨w.heap.size + 1 + 1, 0, none⟩) (by show w.heap.size + 1 ≠ w.heap.size + 1 + 1; omega) _, ?_, hp_set ((hk _ (by omega)).trans h.be) (p := ⟨w.heap.size + 1 + 1, 0, none⟩) (by show w.heap.size + 1 + 1 + 1 ≠ w.heap.size + 1 + 1; omega) _, ?_, hb.setCell (p := ⟨w.heap.size + 1 + 1, 0, none⟩) (by show _ ≤ w.heap.size + 1 + 1; omega) _⟩
  · have := hp_put ((hk (w.heap.size + 1 + 1) (by omega)).trans h.bv) 0 v'
    simpa using this
  · rw [uv_snoc]
    exact own_otherK (by simpa using hown) (by omega) _ _
end Go.Proofs.Ytmigkbimdjiigaa

/- The search over all sets of kit, for one function value: contract. -/
set_option linter.unusedVariables false
set_option linter.unusedSimpArgs false
namespace Go.Proofs.Ytmigkbimdjiigaa
open Go.RowKit Tinker

set_option maxRecDepth 100000 in
set_option maxHeartbeats 4000000 in
theorem kext_X (P0 : Nat → Bool) (a : Option Addr) (sl cap : Nat) (N : Nat) (hN : N ≤ 10) (w : World)
    (hP : ∀ (m : Nat) (W : World), m < 1024 → Below w.heap.size w W → Calls Try.prog 77 #[.slice a sl cap, .int .u64 m] W fun e W' => e = .returned (.bool (P0 m)) ∧ Below W.heap.size W W') :
    ∀ (k m n : Nat) (v : Value) (ms : List Nat) (W : World), k + n = N → m < 1024 → ms.length + (tlK N k m).length + 1 ≤ 2000 → FdK N (.func (.func 77) #[.slice a sl cap] #[]) w v ms W →
      Calls Try.prog 111 #[.int .u64 m, .int .i64 n, .pointer (some ⟨w.heap.size + 1, 0, none⟩), .pointer (some ⟨w.heap.size + 1 + 1, 0, none⟩), .pointer (some ⟨w.heap.size, 0, none⟩), .pointer (some ⟨w.heap.size + 1 + 1 + 1, 0, none⟩)] W
        fun e W' => e = .returned (.tuple #[]) ∧ ∃ v', FdK N (.func (.func 77) #[.slice a sl cap] #[]) w v' (ms ++ (m :: tlK N k m).filter P0) W' := by
  intro k
  induction k using Nat.strongRecOn with
  | _ k ih =>
    intro m n v ms W hkn hm hlen hI
    obtain ⟨i0, hi, hz0, hz1, hz2⟩ := info_parts info_kmask
    have HC := Lib.hid (hP m W hm hI.below)
    have HP := Lib.hid hP
    have IH := Lib.hid ih
    have HI := Lib.hid hI
    have x0 := hp_cell hI.bf (j := 0) (by rfl)
    clear hP ih hI
    cases hb : P0 m
    · have HE := Lib.hid (show (m :: tlK N k m).filter P0 = (tlK N k m).filter P0 by rw [List.filter_cons_of_neg (by simp [hb])])
      rw [hb] at HC
      rw [HE.out]
      clear hb HE
      go_enter Try.func111, Try.ntmps111
      go_wp2_with fail
      refine HC.out.mono ?_
      rintro e w1 ⟨rfl, hB⟩
      have HI1 := Lib.hid (HI.out.low hB)
      clear hB HI x0 HC
      go_wp2_with fail
      go_loopw [8] (fun s8 wr => ∃ (n' : Nat) (v' : Value) (ms' : List Nat), s8 = .int .i64 n' ∧ n ≤ n' ∧ n' ≤ N ∧ FdK N (.func (.func 77) #[.slice a sl cap] #[]) w v' ms' wr ∧ ms' ++ (tlK N (N - n') m).filter P0 = ms ++ (tlK N k m).filter P0 ∧ ms'.length + (tlK N (N - n') m).length ≤ 2000) (fun s8 _ => N - (intOf s8).toNat)
      case atStart => exact ⟨n, _, _, rfl, Nat.le_refl _, by omega, HI1.out, by rw [show N - n = k by omega], by rw [show N - n = k by omega]; omega⟩
      case round =>
        obtain ⟨n', v', ms', rfl, hn1, hn2, hI, heq, hle⟩ := hrel
        have HQ := Lib.hid heq
        have HIr := Lib.hid hI
        have HLE := Lib.hid hle
        clear HI1 heq hI hle
        have xn := hp_cell HIr.out.bn (j := 0) (by rfl)
        by_cases hlt : n' < N
        · have HW := Lib.hid (fun w => kWith_any m n' hm (by omega) w)
          have HT := Lib.hid (tlK_step hlt m)
          have hle2 := HLE.out
          rw [HT.out] at hle2
          simp only [List.length_append, List.length_cons] at hle2
          have hx := fun W h => IH.out (N - (n' + 1)) (by omega) (m ||| 2 ^ n') (n' + 1) v' ms' W (by omega) (or_ltK hm (powK (by omega)).1) (by omega) h
          have ec : (((n' + 1 : Nat)) : Int) = (n' : Int) + 1 := by omega
          simp only [ec] at hx
          have HX := Lib.hid hx
          clear hx ec
          have xe := hp_cell HIr.out.be (j := 0) (by rfl)
          go_wp2_with fail
          refine wp_region_held_drew (S := (fun w' => w'.cell? ⟨w.heap.size + 1 + 1 + 1, 0, none⟩ = some (.func (.func 111) #[] #[.pointer (some ⟨w.heap.size + 1, 0, none⟩), .pointer (some ⟨w.heap.size + 1 + 1, 0, none⟩), .pointer (some ⟨w.heap.size, 0, none⟩), .pointer (some ⟨w.heap.size + 1 + 1 + 1, 0, none⟩)]))) (by kernel_rfl) ?_ (fun hHeld => ?_)
          · exact xe
          refine wpAnyH_take (i := 0) (oi := ?oiz0) (v := ?vz0) ?hiz0 (by kernel_rfl) (by kernel_rfl) (by kernel_rfl) ?hqz0 ?hyz0 hHeld ?restz0
          case hiz0 => exact rfl
          case hqz0 => exact fun _ _ _ h => h
          case hyz0 =>
            refine Or.inl ⟨by rfl, ?_⟩
            intro w hSw
            (try dsimp only at hSw)
            go_simp
            (try with_reducible rfl)
          try simp only [Act.put, List.getElem_toArray, List.getElem_cons_succ, List.getElem_cons_zero, List.setIfInBounds_toArray, List.set_cons_zero, List.set_cons_succ]
          refine wpAnyH_take (i := 1) (oi := ?oiz1) (v := ?vz1) ?hiz1 (by kernel_rfl) (by kernel_rfl) (by kernel_rfl) ?hqz1 ?hyz1 hHeld ?restz1
          case hiz1 => exact rfl
          case hqz1 => exact fun _ _ _ h => h
          case hyz1 =>
            refine Or.inl ⟨by rfl, ?_⟩
            intro w hSw
            (try dsimp only at hSw)
            go_simp
            (try with_reducible rfl)
          try simp only [Act.put, List.getElem_toArray, List.getElem_cons_succ, List.getElem_cons_zero, List.setIfInBounds_toArray, List.set_cons_zero, List.set_cons_succ]
          refine wpAnyH_take (i := 2) (oi := ?oiz2) (v := ?vz2) ?hiz2 (by kernel_rfl) (by kernel_rfl) (by kernel_rfl) ?hqz2 ?hyz2 hHeld ?restz2
          case hiz2 => exact rfl
          case hqz2 => exact fun _ _ _ h => h
          case hyz2 =>
            refine Or.inl ⟨by rfl, ?_⟩
            intro w hSw
            (try dsimp only at hSw)
            go_simp
            (try with_reducible rfl)
          try simp only [Act.put, List.getElem_toArray, List.getElem_cons_succ, List.getElem_cons_zero, List.setIfInBounds_toArray, List.set_cons_zero, List.set_cons_succ]
          refine wpAnyH_take (i := 4) (oi := ?oiz4) (v := ?vz4) ?hiz4 (by kernel_rfl) (by kernel_rfl) (by kernel_rfl) ?hqz4 ?hyz4 hHeld ?restz4
          case hiz4 => exact rfl
          case hqz4 => exact fun _ _ _ h => h
          case hyz4 =>
            refine Or.inl ⟨by rfl, ?_⟩
            intro w hSw
            (try dsimp only at hSw)
            go_simp
            (try with_reducible rfl)
          try simp only [Act.put, List.getElem_toArray, List.getElem_cons_succ, List.getElem_cons_zero, List.setIfInBounds_toArray, List.set_cons_zero, List.set_cons_succ]
          refine wpAnyH_take (i := 5) (oi := ?oiz5) (v := ?vz5) ?hiz5 (by kernel_rfl) (by kernel_rfl) (by kernel_rfl) ?hqz5 ?hyz5 hHeld ?restz5
          case hiz5 => exact rfl
          case hqz5 => exact fun _ _ _ h => h
          case hyz5 =>
            refine Or.inl ⟨by rfl, ?_⟩
            intro w hSw
            (try dsimp only at hSw)
            go_simp
            (try with_reducible rfl)
          try simp only [Act.put, List.getElem_toArray, List.getElem_cons_succ, List.getElem_cons_zero, List.setIfInBounds_toArray, List.set_cons_zero, List.set_cons_succ]
          refine wpAnyH_ready (rs := [3]) (by kernel_rfl) (by simp) ?_
          refine AllReadyH.cons (o := ?ooz3) ?hoz3 ?hkz3 AllReadyH.nil
          case hoz3 => exact rfl
          intro K hK
          go_simp
          refine (HW.out _).mono ?_
          rintro e wa ⟨rfl, rfl⟩
          refine hK.out _ _ ?_ (fun hHeld => ?_)
          · exact xe
          clear hK K
          try simp only [Act.put, List.getElem_toArray, List.getElem_cons_succ, List.getElem_cons_zero, List.setIfInBounds_toArray, List.set_cons_zero, List.set_cons_succ]
          refine wpAnyH_ready (rs := [6]) (by kernel_rfl) (by simp) ?_
          refine AllReadyH.cons (o := ?ooz6) ?hoz6 ?hkz6 AllReadyH.nil
          case hoz6 => exact rfl
          intro K hK
          go_simp
          rw [IntWalk.i64_in ((n' : Int) + 1) (by omega)]
          refine (HX.out _ HIr.out.drew).mono ?_
          rintro e wa ⟨rfl, vn, hIn⟩
          refine hK.out _ _ ?_ (fun hHeld => ?_)
          · exact hp_cell hIn.be (j := 0) (by rfl)
          clear hK K
          try simp only [Act.put, List.getElem_toArray, List.getElem_cons_succ, List.getElem_cons_zero, List.setIfInBounds_toArray, List.set_cons_zero, List.set_cons_succ]
          refine wpAnyH_done (by kernel_rfl) ?_ _
          have HN := Lib.hid hIn
          clear hIn HIr HX xe xn
          go_wp2_with fail
          go_roundw
          case rel =>
            refine ⟨n' + 1, vn, _, by go_num, by omega, by omega, HN.out, ?_, ?_⟩
            · rw [← HQ.out, HT.out, List.filter_append, List.append_assoc]
            · have h1 := List.length_filter_le P0 ((m ||| 2 ^ n') :: tlK N (N - (n' + 1)) (m ||| 2 ^ n'))
              simp only [List.length_append, List.length_cons] at h1 ⊢
              omega
          case measure => simp [intOf]; omega
        · obtain rfl : n' = N := by omega
          have hq := HQ.out
          rw [Nat.sub_self, show tlK n' 0 m = [] from rfl] at hq
          simp only [List.filter_nil, List.append_nil] at hq
          have HQ2 := Lib.hid hq
          clear hq
          go_wp2_with fail
          go_end0
          exact ⟨rfl, v', by rw [← HQ2.out]; exact HIr.out⟩

    · have HE := Lib.hid (show (m :: tlK N k m).filter P0 = m :: (tlK N k m).filter P0 by rw [List.filter_cons_of_pos (by simp [hb])])
      rw [hb] at HC
      rw [HE.out, show ms ++ m :: (tlK N k m).filter P0 = (ms ++ [m]) ++ (tlK N k m).filter P0 by simp]
      clear hb HE
      go_enter Try.func111, Try.ntmps111
      go_wp2_with fail
      refine HC.out.mono ?_
      rintro e w1 ⟨rfl, hB⟩
      have HI1 := Lib.hid (HI.out.low hB)
      clear hB HI x0 HC
      have x1 := hp_cell HI1.out.bv (j := 0) (by rfl)
      have f1 := hp_free HI1.out.bv 0
      have hown := HI1.out.out
      go_wp2_with (at_builtin; refine wpList_append_own _ rfl (.tmp 12) (.tmp 14) 52 rfl (w.heap.size + 4) 51 i0 (.int .u64 0) 1 8 Try.underlying52 hi hz0 hz1 hz2 rfl (by decide) _ _ _ rfl (hown.alloc _) ⟨w1.heap.size, 0, none⟩ 1 1 [.int .u64 m] rfl rfl ?c1 ?c2 ?c3 ?c4 ?c5 ?_)
      case c1 => exact cell_one_new _ _ _
      case c2 => simp [Value.oneCell']
      case c3 => unfold maxLen; omega
      case c4 => omega
      case c5 => have := HI1.out.size; simp; omega
      intro v' w2 hown' hgrow _
      obtain ⟨va, vc, rfl⟩ := own_slice hown'
      have HI2 := Lib.hid (HI1.out.push hown' hgrow)
      have hsz := HI1.out.size
      have hsz2 : w1.heap.size < w2.heap.size := by have := hgrow.size; simp at this; omega
      have x2 : ∃ u, w2.cell? ⟨w.heap.size + 1 + 1, 0, none⟩ = some u := ⟨_, hp_cell (HI1.out.grow hgrow) (j := 0) (by rfl)⟩
      obtain ⟨u, x2⟩ := x2
      have f2 := hp_free (HI1.out.grow hgrow) 0
      have hl : (ms ++ [m]).length + (tlK N k m).length ≤ 2000 := by simp; omega
      clear HI1 hown hown' hgrow x1 f1 hsz hsz2 hlen
      go_wp2_with fail
      go_loopw [8] (fun s8 wr => ∃ (n' : Nat) (v' : Value) (ms' : List Nat), s8 = .int .i64 n' ∧ n ≤ n' ∧ n' ≤ N ∧ FdK N (.func (.func 77) #[.slice a sl cap] #[]) w v' ms' wr ∧ ms' ++ (tlK N (N - n') m).filter P0 = (ms ++ [m]) ++ (tlK N k m).filter P0 ∧ ms'.length + (tlK N (N - n') m).length ≤ 2000) (fun s8 _ => N - (intOf s8).toNat)
      case atStart => exact ⟨n, _, _, rfl, Nat.le_refl _, by omega, HI2.out, by rw [show N - n = k by omega], by rw [show N - n = k by omega]; omega⟩
      case round =>
        obtain ⟨n', v', ms', rfl, hn1, hn2, hI, heq, hle⟩ := hrel
        have HQ := Lib.hid heq
        have HIr := Lib.hid hI
        have HLE := Lib.hid hle
        clear HI2 heq hI hle
        have xn := hp_cell HIr.out.bn (j := 0) (by rfl)
        by_cases hlt : n' < N
        · have HW := Lib.hid (fun w => kWith_any m n' hm (by omega) w)
          have HT := Lib.hid (tlK_step hlt m)
          have hle2 := HLE.out
          rw [HT.out] at hle2
          simp only [List.length_append, List.length_cons] at hle2
          have hx := fun W h => IH.out (N - (n' + 1)) (by omega) (m ||| 2 ^ n') (n' + 1) v' ms' W (by omega) (or_ltK hm (powK (by omega)).1) (by omega) h
          have ec : (((n' + 1 : Nat)) : Int) = (n' : Int) + 1 := by omega
          simp only [ec] at hx
          have HX := Lib.hid hx
          clear hx ec
          have xe := hp_cell HIr.out.be (j := 0) (by rfl)
          go_wp2_with fail
          refine wp_region_held_drew (S := (fun w' => w'.cell? ⟨w.heap.size + 1 + 1 + 1, 0, none⟩ = some (.func (.func 111) #[] #[.pointer (some ⟨w.heap.size + 1, 0, none⟩), .pointer (some ⟨w.heap.size + 1 + 1, 0, none⟩), .pointer (some ⟨w.heap.size, 0, none⟩), .pointer (some ⟨w.heap.size + 1 + 1 + 1, 0, none⟩)]))) (by kernel_rfl) ?_ (fun hHeld => ?_)
          · exact xe
          refine wpAnyH_take (i := 0) (oi := ?oiy0) (v := ?vy0) ?hiy0 (by kernel_rfl) (by kernel_rfl) (by kernel_rfl) ?hqy0 ?hyy0 hHeld ?resty0
          case hiy0 => exact rfl
          case hqy0 => exact fun _ _ _ h => h
          case hyy0 =>
            refine Or.inl ⟨by rfl, ?_⟩
            intro w hSw
            (try dsimp only at hSw)
            go_simp
            (try with_reducible rfl)
          try simp only [Act.put, List.getElem_toArray, List.getElem_cons_succ, List.getElem_cons_zero, List.setIfInBounds_toArray, List.set_cons_zero, List.set_cons_succ]
          refine wpAnyH_take (i := 1) (oi := ?oiy1) (v := ?vy1) ?hiy1 (by kernel_rfl) (by kernel_rfl) (by kernel_rfl) ?hqy1 ?hyy1 hHeld ?resty1
          case hiy1 => exact rfl
          case hqy1 => exact fun _ _ _ h => h
          case hyy1 =>
            refine Or.inl ⟨by rfl, ?_⟩
            intro w hSw
            (try dsimp only at hSw)
            go_simp
            (try with_reducible rfl)
          try simp only [Act.put, List.getElem_toArray, List.getElem_cons_succ, List.getElem_cons_zero, List.setIfInBounds_toArray, List.set_cons_zero, List.set_cons_succ]
          refine wpAnyH_take (i := 2) (oi := ?oiy2) (v := ?vy2) ?hiy2 (by kernel_rfl) (by kernel_rfl) (by kernel_rfl) ?hqy2 ?hyy2 hHeld ?resty2
          case hiy2 => exact rfl
          case hqy2 => exact fun _ _ _ h => h
          case hyy2 =>
            refine Or.inl ⟨by rfl, ?_⟩
            intro w hSw
            (try dsimp only at hSw)
            go_simp
            (try with_reducible rfl)
          try simp only [Act.put, List.getElem_toArray, List.getElem_cons_succ, List.getElem_cons_zero, List.setIfInBounds_toArray, List.set_cons_zero, List.set_cons_succ]
          refine wpAnyH_take (i := 4) (oi := ?oiy4) (v := ?vy4) ?hiy4 (by kernel_rfl) (by kernel_rfl) (by kernel_rfl) ?hqy4 ?hyy4 hHeld ?resty4
          case hiy4 => exact rfl
          case hqy4 => exact fun _ _ _ h => h
          case hyy4 =>
            refine Or.inl ⟨by rfl, ?_⟩
            intro w hSw
            (try dsimp only at hSw)
            go_simp
            (try with_reducible rfl)
          try simp only [Act.put, List.getElem_toArray, List.getElem_cons_succ, List.getElem_cons_zero, List.setIfInBounds_toArray, List.set_cons_zero, List.set_cons_succ]
          refine wpAnyH_take (i := 5) (oi := ?oiy5) (v := ?vy5) ?hiy5 (by kernel_rfl) (by kernel_rfl) (by kernel_rfl) ?hqy5 ?hyy5 hHeld ?resty5
          case hiy5 => exact rfl
          case hqy5 => exact fun _ _ _ h => h
          case hyy5 =>
            refine Or.inl ⟨by rfl, ?_⟩
            intro w hSw
            (try dsimp only at hSw)
            go_simp
            (try with_reducible rfl)
          try simp only [Act.put, List.getElem_toArray, List.getElem_cons_succ, List.getElem_cons_zero, List.setIfInBounds_toArray, List.set_cons_zero, List.set_cons_succ]
          refine wpAnyH_ready (rs := [3]) (by kernel_rfl) (by simp) ?_
          refine AllReadyH.cons (o := ?ooy3) ?hoy3 ?hky3 AllReadyH.nil
          case hoy3 => exact rfl
          intro K hK
          go_simp
          refine (HW.out _).mono ?_
          rintro e wa ⟨rfl, rfl⟩
          refine hK.out _ _ ?_ (fun hHeld => ?_)
          · exact xe
          clear hK K
          try simp only [Act.put, List.getElem_toArray, List.getElem_cons_succ, List.getElem_cons_zero, List.setIfInBounds_toArray, List.set_cons_zero, List.set_cons_succ]
          refine wpAnyH_ready (rs := [6]) (by kernel_rfl) (by simp) ?_
          refine AllReadyH.cons (o := ?ooy6) ?hoy6 ?hky6 AllReadyH.nil
          case hoy6 => exact rfl
          intro K hK
          go_simp
          rw [IntWalk.i64_in ((n' : Int) + 1) (by omega)]
          refine (HX.out _ HIr.out.drew).mono ?_
          rintro e wa ⟨rfl, vn, hIn⟩
          refine hK.out _ _ ?_ (fun hHeld => ?_)
          · exact hp_cell hIn.be (j := 0) (by rfl)
          clear hK K
          try simp only [Act.put, List.getElem_toArray, List.getElem_cons_succ, List.getElem_cons_zero, List.setIfInBounds_toArray, List.set_cons_zero, List.set_cons_succ]
          refine wpAnyH_done (by kernel_rfl) ?_ _
          have HN := Lib.hid hIn
          clear hIn HIr HX xe xn
          go_wp2_with fail
          go_roundw
          case rel =>
            refine ⟨n' + 1, vn, _, by go_num, by omega, by omega, HN.out, ?_, ?_⟩
            · rw [← HQ.out, HT.out, List.filter_append, List.append_assoc]
            · have h1 := List.length_filter_le P0 ((m ||| 2 ^ n') :: tlK N (N - (n' + 1)) (m ||| 2 ^ n'))
              simp only [List.length_append, List.length_cons] at h1 ⊢
              omega
          case measure => simp [intOf]; omega
        · obtain rfl : n' = N := by omega
          have hq := HQ.out
          rw [Nat.sub_self, show tlK n' 0 m = [] from rfl] at hq
          simp only [List.filter_nil, List.append_nil] at hq
          have HQ2 := Lib.hid hq
          clear hq
          go_wp2_with fail
          go_end0
          exact ⟨rfl, v', by rw [← HQ2.out]; exact HIr.out⟩


set_option maxRecDepth 100000 in
set_option maxHeartbeats 4000000 in
theorem kfind_X (P0 : Nat → Bool) (a : Option Addr) (sl cap : Nat) (N : Nat) (hN : N ≤ 10) (w : World)
    (hP : ∀ (m : Nat) (W : World), m < 1024 → Below w.heap.size w W → Calls Try.prog 77 #[.slice a sl cap, .int .u64 m] W fun e W' => e = .returned (.bool (P0 m)) ∧ Below W.heap.size W W') :
    Calls Try.prog 76 #[.int .i64 N, .func (.func 77) #[.slice a sl cap] #[]] w (GivesMsk ((enumK N).filter P0) w) := by
  have hl2 : 2 ^ N ≤ 2 ^ 10 := Nat.pow_le_pow_right (by omega) hN
  have HX := Lib.hid (fun W h => kext_X P0 a sl cap N hN w hP N 0 0 (.slice none 0 0) [] W rfl (by decide) (by rw [tlK_len]; simp; omega) h)
  clear hP hl2
  go_enter Try.func76, Try.ntmps76
  go_wp2_with fail
  have hI0 : FdK N (.func (.func 77) #[.slice a sl cap] #[]) w (.slice none 0 0) [] ((((w.alloc (.cells #[.int .i64 (N : Int)] 3)).alloc (.cells #[.func (.func 77) #[.slice a sl cap] #[]] 63)).alloc (.cells #[.slice none 0 0] 52)).alloc (.cells #[.func (.func 111) #[] #[.pointer (some ⟨w.heap.size + 1, 0, none⟩), .pointer (some ⟨w.heap.size + 1 + 1, 0, none⟩), .pointer (some ⟨w.heap.size, 0, none⟩), .pointer (some ⟨w.heap.size + 1 + 1 + 1, 0, none⟩)]] 96)) :=
    ⟨hp_alloc (hp_alloc (hp_alloc (hp_new rfl))), hp_alloc (hp_alloc (hp_new (by simp))), hp_alloc (hp_new (by simp)), hp_new (by simp), World.ownsRow_nil _ _ _ _, ((((Below.refl _ _).alloc (Nat.le_refl _) _).alloc (by simp) _).alloc (by simp; omega) _).alloc (by simp; omega) _⟩
  refine (HX.out _ hI0).mono ?_
  rintro e w1 ⟨rfl, v', hI⟩
  have e1 : [] ++ (0 :: tlK N N 0).filter P0 = (enumK N).filter P0 := rfl
  rw [e1] at hI
  obtain ⟨va, vc, rfl⟩ := own_slice hI.out
  have x1 := hp_cell hI.bv (j := 0) (by rfl)
  have HM := Lib.hid (msk_of_own hI.out)
  have HB := Lib.hid hI.below
  clear hI hI0 HX e1
  go_wp2_with fail
  go_ret
  exact ⟨va, vc, rfl, HM.out.1, HB.out⟩

end Go.Proofs.Ytmigkbimdjiigaa

/- Suites of the code: goals that exclude each other: contracts. -/
set_option linter.unusedVariables false
set_option linter.unusedSimpArgs false
namespace Tinker
/-- Whether a row meets two goals of a set. -/
def twoB (G x : Nat) : Bool := decide (1 < szK (x &&& G))
def excB (s : List Nat) (G : Nat) : Bool := difK G (openM s) == 0 && !s.any (twoB G)
end Tinker
namespace Go.Proofs.Ytmigkbimdjiigaa
open Go.RowKit Tinker

set_option maxRecDepth 100000 in
set_option maxHeartbeats 1000000 in
theorem tTwo1_any (G x M : Nat) (hG : G < 1024) (hx : x < 1024) (w : World) (hc : w.cell? ⟨M, 0, none⟩ = some (.int .u64 (G : Int))) :
    Calls Try.prog 112 #[.int .u64 x, .pointer (some ⟨M, 0, none⟩)] w fun e w' => e = .returned (.bool (twoB G x)) ∧ w = w' := by
  have h2 := bits_andK hx hG
  have HZ := Lib.hid (kSize_any (x &&& G) (and_ltK hx) w)
  have hd : decide ((1 : Int) < (szK (x &&& G) : Int)) = twoB G x := by unfold twoB; rw [decide_eq_decide]; omega
  generalize szK (x &&& G) = Z at HZ hd
  generalize twoB G x = R at hd ⊢
  go_enter Try.func112, Try.ntmps112
  go_wp2_with fail
  refine HZ.out.mono ?_
  rintro e w' ⟨rfl, rfl⟩
  go_wp2_with fail
  go_ret
  exact ⟨rfl, rfl⟩
set_option maxRecDepth 100000 in
set_option maxHeartbeats 1000000 in
theorem tIdx_any (a : Option Addr) (cap : Nat) (s : List Nat) (G M : Nat) (w : World) (hs : MskAt w a s) (hl : s.length ≤ 8) (hv : ∀ x ∈ s, x < 1024) (hG : G < 1024) (hc : w.cell? ⟨M, 0, none⟩ = some (.int .u64 (G : Int))) :
    Calls Try.prog 125 #[.slice a s.length cap, .func (.func 112) #[] #[.pointer (some ⟨M, 0, none⟩)]] w fun e w' => (∃ r : Int, e = .returned (.int .i64 r) ∧ decide (0 ≤ r) = s.any (twoB G)) ∧ w = w' := by
  have HV := Lib.hid hv
  clear hv
  go_enter Try.func125, Try.ntmps125
  go_wp2_with fail
  go_loop [8] (fun s8 => ∃ k : Nat, k ≤ s.length ∧ s8 = .int .i64 k ∧ (s.take k).all (fun x => !twoB G x) = true) (fun s8 => s.length - (intOf s8).toNat)
  case atStart => exact ⟨0, Nat.zero_le _, rfl, by simp⟩
  case round =>
    obtain ⟨k, hk, rfl, hall⟩ := hrel
    have HA := Lib.hid hall
    clear hall
    by_cases hlt : k < s.length
    · obtain ⟨b, off, x, rfl, hlb, hx, h0⟩ := hs.at_ hlt
      have HS := Lib.hid hx
      have HM := Lib.hid (tTwo1_any G x M hG (HV.out x (mem_of_get hx)) w hc)
      clear hs hx
      cases hb : twoB G x
      · have HZ := Lib.hid hb
        rw [hb] at HM
        clear hb
        go_wp2_with fail
        refine HM.out.mono ?_
        rintro e w1 ⟨rfl, rfl⟩
        go_wp2_with fail
        go_round
        case rel => exact ⟨k + 1, by omega, by go_num, all_snoc HA.out HS.out (by rw [HZ.out]; rfl)⟩
        case measure => simp [intOf]; omega
      · have HZ := Lib.hid hb
        rw [hb] at HM
        clear hb
        go_wp2_with fail
        refine HM.out.mono ?_
        rintro e w1 ⟨rfl, rfl⟩
        go_wp2_with fail
        go_ret
        refine ⟨⟨k, rfl, ?_⟩, rfl⟩
        rw [show s.any (twoB G) = true from List.any_eq_true.2 ⟨x, mem_of_get HS.out, HZ.out⟩]
        simp
    · have HZ := Lib.hid (all_whole HA.out hlt)
      go_wp2_with fail
      go_ret
      refine ⟨⟨-1, rfl, ?_⟩, rfl⟩
      have : s.any (twoB G) = false := by
        rw [List.any_eq_false]
        intro x hx
        have := List.all_eq_true.1 HZ.out x hx
        simpa using this
      rw [this]
      decide
set_option maxRecDepth 100000 in
set_option maxHeartbeats 1000000 in
theorem tTwo_any (a : Option Addr) (cap : Nat) (s : List Nat) (G M : Nat) (w : World) (hs : MskAt w a s) (hl : s.length ≤ 8) (hv : ∀ x ∈ s, x < 1024) (hG : G < 1024) (hc : w.cell? ⟨M, 0, none⟩ = some (.int .u64 (G : Int))) :
    Calls Try.prog 114 #[.slice a s.length cap, .func (.func 112) #[] #[.pointer (some ⟨M, 0, none⟩)]] w fun e w' => e = .returned (.bool (s.any (twoB G))) ∧ w = w' := by
  have H := Lib.hid (tIdx_any a cap s G M w hs hl hv hG hc)
  generalize s.any (twoB G) = R at H ⊢
  clear hs hv hc
  go_enter Try.func114, Try.ntmps114
  go_wp2_with fail
  refine H.out.mono ?_
  rintro e w1 ⟨⟨r, rfl, hr⟩, rfl⟩
  go_wp2_with fail
  go_ret
  exact ⟨rfl, rfl⟩

set_option maxRecDepth 100000 in
set_option maxHeartbeats 2000000 in
theorem tExcl_any (a : Option Addr) (cap : Nat) (s : List Nat) (G : Nat) (w : World) (hs : MskAt w a s) (hl : s.length ≤ 8) (hv : ∀ x ∈ s, x < 1024) (hG : G < 1024) :
    Calls Try.prog 77 #[.slice a s.length cap, .int .u64 G] w fun e w' => e = .returned (.bool (excB s G)) ∧ Below w.heap.size w w' := by
  have HO := Lib.hid (fun W hs => tOpen_any a cap s W hs hl hv)
  have HP := Lib.hid (fun W => kIsPart_any G (openM s) hG (openM_lt hv) W)
  unfold excB
  cases h1 : (difK G (openM s) == 0)
  · rw [h1] at HP
    go_enter Try.func77, Try.ntmps77
    go_wp2_with fail
    have xg := hp_cell (hp_new (w := w) (o := .cells #[.int .u64 (G : Int)] 51) rfl) (j := 0) (by rfl)
    have xg2 : (w.alloc (.cells #[.int .u64 (G : Int)] 51)).drew.cell? ⟨w.heap.size, 0, none⟩ = some (.int .u64 (G : Int)) := xg
    have hs2 : MskAt (w.alloc (.cells #[.int .u64 (G : Int)] 51)).drew a s := hs.below ((Below.refl _ _).alloc (Nat.le_refl _) _).drew (Nat.le_refl _)
    have hbl : Below w.heap.size w (w.alloc (.cells #[.int .u64 (G : Int)] 51)).drew := ((Below.refl _ _).alloc (Nat.le_refl _) _).drew
    have HC := Lib.hid (fun W (hx : W.cell? ⟨w.heap.size, 0, none⟩ = some (.int .u64 (G : Int))) (hz : MskAt W a s) => tTwo_any a cap s G w.heap.size W hz hl hv hG hx)
    refine wp_region_held_drew (S := (fun w' => w'.cell? ⟨w.heap.size, 0, none⟩ = some (.int .u64 (G : Int)))) (by kernel_rfl) ?_ (fun hHeld => ?_)
    · exact xg
    refine wpAnyH_take (i := 0) (oi := ?oiq1) (v := ?vq1) ?hiq1 (by kernel_rfl) (by kernel_rfl) (by kernel_rfl) ?hqq1 ?hyq1 hHeld ?restq1
    case hiq1 => exact rfl
    case hqq1 => exact fun _ _ _ h => h
    case hyq1 =>
      refine Or.inl ⟨by rfl, ?_⟩
      intro w hSw
      go_simp
      (try with_reducible rfl)
    try simp only [Act.put, List.getElem_toArray, List.getElem_cons_succ, List.getElem_cons_zero, List.setIfInBounds_toArray, List.set_cons_zero, List.set_cons_succ]
    refine wpAnyH_take (i := 1) (oi := ?oiq2) (v := ?vq2) ?hiq2 (by kernel_rfl) (by kernel_rfl) (by kernel_rfl) ?hqq2 ?hyq2 hHeld ?restq2
    case hiq2 => exact rfl
    case hqq2 => exact fun _ _ _ h => h
    case hyq2 =>
      refine Or.inl ⟨by rfl, ?_⟩
      intro w hSw
      go_simp
      (try with_reducible rfl)
    try simp only [Act.put, List.getElem_toArray, List.getElem_cons_succ, List.getElem_cons_zero, List.setIfInBounds_toArray, List.set_cons_zero, List.set_cons_succ]
    refine wpAnyH_ready (rs := [2]) (by kernel_rfl) (by simp) ?_
    refine AllReadyH.cons (o := ?or11_2) ?hr11_2 ?kr11_2 AllReadyH.nil
    case hr11_2 => exact rfl
    case kr11_2 =>
      intro Kz hKz
      go_simp
      refine (HO.out _ hs2).mono ?_
      rintro e wa ⟨rfl, rfl⟩
      refine hKz.out _ _ xg2 (fun hHeld => ?_)
      clear hKz Kz
      try simp only [Act.put, List.getElem_toArray, List.getElem_cons_succ, List.getElem_cons_zero, List.setIfInBounds_toArray, List.set_cons_zero, List.set_cons_succ]
      refine wpAnyH_ready (rs := [3]) (by kernel_rfl) (by simp) ?_
      refine AllReadyH.cons (o := ?or10_3) ?hr10_3 ?kr10_3 AllReadyH.nil
      case hr10_3 => exact rfl
      case kr10_3 =>
        intro Kz hKz
        go_simp
        refine (HP.out _).mono ?_
        rintro e wa ⟨rfl, rfl⟩
        refine hKz.out _ _ xg2 (fun hHeld => ?_)
        clear hKz Kz
        try simp only [Act.put, List.getElem_toArray, List.getElem_cons_succ, List.getElem_cons_zero, List.setIfInBounds_toArray, List.set_cons_zero, List.set_cons_succ]
        refine wpAnyH_take (i := 4) (oi := ?oiq3) (v := ?vq3) ?hiq3 (by kernel_rfl) (by kernel_rfl) (by kernel_rfl) ?hqq3 ?hyq3 hHeld ?restq3
        case hiq3 => exact rfl
        case hqq3 => exact fun _ _ _ h => h
        case hyq3 =>
          refine Or.inl ⟨by rfl, ?_⟩
          intro w hSw
          go_simp
          (try with_reducible rfl)
        try simp only [Act.put, List.getElem_toArray, List.getElem_cons_succ, List.getElem_cons_zero, List.setIfInBounds_toArray, List.set_cons_zero, List.set_cons_succ]
        refine wpAnyH_take (i := 5) (oi := ?oiq4) (v := undef) ?hiq4 (by kernel_rfl) (by kernel_rfl) (by kernel_rfl) ?hqq4 ?hyq4 hHeld ?restq4
        case hiq4 => exact rfl
        case hqq4 => exact fun _ _ _ h => h
        case hyq4 => exact Or.inr ⟨by kernel_rfl, rfl⟩
        try simp only [Act.put, List.getElem_toArray, List.getElem_cons_succ, List.getElem_cons_zero, List.setIfInBounds_toArray, List.set_cons_zero, List.set_cons_succ]
        refine wpAnyH_take (i := 6) (oi := ?oiq5) (v := undef) ?hiq5 (by kernel_rfl) (by kernel_rfl) (by kernel_rfl) ?hqq5 ?hyq5 hHeld ?restq5
        case hiq5 => exact rfl
        case hqq5 => exact fun _ _ _ h => h
        case hyq5 => exact Or.inr ⟨by kernel_rfl, rfl⟩
        try simp only [Act.put, List.getElem_toArray, List.getElem_cons_succ, List.getElem_cons_zero, List.setIfInBounds_toArray, List.set_cons_zero, List.set_cons_succ]
        refine wpAnyH_take (i := 7) (oi := ?oiq6) (v := undef) ?hiq6 (by kernel_rfl) (by kernel_rfl) (by kernel_rfl) ?hqq6 ?hyq6 hHeld ?restq6
        case hiq6 => exact rfl
        case hqq6 => exact fun _ _ _ h => h
        case hyq6 => exact Or.inr ⟨by kernel_rfl, rfl⟩
        try simp only [Act.put, List.getElem_toArray, List.getElem_cons_succ, List.getElem_cons_zero, List.setIfInBounds_toArray, List.set_cons_zero, List.set_cons_succ]
        refine wpAnyH_take (i := 8) (oi := ?oiq7) (v := undef) ?hiq7 (by kernel_rfl) (by kernel_rfl) (by kernel_rfl) ?hqq7 ?hyq7 hHeld ?restq7
        case hiq7 => exact rfl
        case hqq7 => exact fun _ _ _ h => h
        case hyq7 => exact Or.inr ⟨by kernel_rfl, rfl⟩
        try simp only [Act.put, List.getElem_toArray, List.getElem_cons_succ, List.getElem_cons_zero, List.setIfInBounds_toArray, List.set_cons_zero, List.set_cons_succ]
        refine wpAnyH_take (i := 9) (oi := ?oiq8) (v := ?vq8) ?hiq8 (by kernel_rfl) (by kernel_rfl) (by kernel_rfl) ?hqq8 ?hyq8 hHeld ?restq8
        case hiq8 => exact rfl
        case hqq8 => exact fun _ _ _ h => h
        case hyq8 =>
          refine Or.inl ⟨by rfl, ?_⟩
          intro w hSw
          go_simp
          (try with_reducible rfl)
        try simp only [Act.put, List.getElem_toArray, List.getElem_cons_succ, List.getElem_cons_zero, List.setIfInBounds_toArray, List.set_cons_zero, List.set_cons_succ]
        refine wpAnyH_take (i := 10) (oi := ?oiq9) (v := ?vq9) ?hiq9 (by kernel_rfl) (by kernel_rfl) (by kernel_rfl) ?hqq9 ?hyq9 hHeld ?restq9
        case hiq9 => exact rfl
        case hqq9 => exact fun _ _ _ h => h
        case hyq9 =>
          refine Or.inl ⟨by rfl, ?_⟩
          intro w hSw
          go_simp
          (try with_reducible rfl)
        try simp only [Act.put, List.getElem_toArray, List.getElem_cons_succ, List.getElem_cons_zero, List.setIfInBounds_toArray, List.set_cons_zero, List.set_cons_succ]
        refine wpAnyH_done (by kernel_rfl) ?_ _
        clear hHeld
        go_wp2_with fail
        go_ret
        exact ⟨rfl, hbl⟩

  · rw [h1] at HP
    go_enter Try.func77, Try.ntmps77
    go_wp2_with fail
    have xg := hp_cell (hp_new (w := w) (o := .cells #[.int .u64 (G : Int)] 51) rfl) (j := 0) (by rfl)
    have xg2 : (w.alloc (.cells #[.int .u64 (G : Int)] 51)).drew.cell? ⟨w.heap.size, 0, none⟩ = some (.int .u64 (G : Int)) := xg
    have hs2 : MskAt (w.alloc (.cells #[.int .u64 (G : Int)] 51)).drew a s := hs.below ((Below.refl _ _).alloc (Nat.le_refl _) _).drew (Nat.le_refl _)
    have hbl : Below w.heap.size w (w.alloc (.cells #[.int .u64 (G : Int)] 51)).drew := ((Below.refl _ _).alloc (Nat.le_refl _) _).drew
    have HC := Lib.hid (fun W (hx : W.cell? ⟨w.heap.size, 0, none⟩ = some (.int .u64 (G : Int))) (hz : MskAt W a s) => tTwo_any a cap s G w.heap.size W hz hl hv hG hx)
    refine wp_region_held_drew (S := (fun w' => w'.cell? ⟨w.heap.size, 0, none⟩ = some (.int .u64 (G : Int)))) (by kernel_rfl) ?_ (fun hHeld => ?_)
    · exact xg
    refine wpAnyH_take (i := 0) (oi := ?oiq12) (v := ?vq12) ?hiq12 (by kernel_rfl) (by kernel_rfl) (by kernel_rfl) ?hqq12 ?hyq12 hHeld ?restq12
    case hiq12 => exact rfl
    case hqq12 => exact fun _ _ _ h => h
    case hyq12 =>
      refine Or.inl ⟨by rfl, ?_⟩
      intro w hSw
      go_simp
      (try with_reducible rfl)
    try simp only [Act.put, List.getElem_toArray, List.getElem_cons_succ, List.getElem_cons_zero, List.setIfInBounds_toArray, List.set_cons_zero, List.set_cons_succ]
    refine wpAnyH_take (i := 1) (oi := ?oiq13) (v := ?vq13) ?hiq13 (by kernel_rfl) (by kernel_rfl) (by kernel_rfl) ?hqq13 ?hyq13 hHeld ?restq13
    case hiq13 => exact rfl
    case hqq13 => exact fun _ _ _ h => h
    case hyq13 =>
      refine Or.inl ⟨by rfl, ?_⟩
      intro w hSw
      go_simp
      (try with_reducible rfl)
    try simp only [Act.put, List.getElem_toArray, List.getElem_cons_succ, List.getElem_cons_zero, List.setIfInBounds_toArray, List.set_cons_zero, List.set_cons_succ]
    refine wpAnyH_ready (rs := [2]) (by kernel_rfl) (by simp) ?_
    refine AllReadyH.cons (o := ?or22_2) ?hr22_2 ?kr22_2 AllReadyH.nil
    case hr22_2 => exact rfl
    case kr22_2 =>
      intro Kz hKz
      go_simp
      refine (HO.out _ hs2).mono ?_
      rintro e wa ⟨rfl, rfl⟩
      refine hKz.out _ _ xg2 (fun hHeld => ?_)
      clear hKz Kz
      try simp only [Act.put, List.getElem_toArray, List.getElem_cons_succ, List.getElem_cons_zero, List.setIfInBounds_toArray, List.set_cons_zero, List.set_cons_succ]
      refine wpAnyH_ready (rs := [3]) (by kernel_rfl) (by simp) ?_
      refine AllReadyH.cons (o := ?or21_3) ?hr21_3 ?kr21_3 AllReadyH.nil
      case hr21_3 => exact rfl
      case kr21_3 =>
        intro Kz hKz
        go_simp
        refine (HP.out _).mono ?_
        rintro e wa ⟨rfl, rfl⟩
        refine hKz.out _ _ xg2 (fun hHeld => ?_)
        clear hKz Kz
        try simp only [Act.put, List.getElem_toArray, List.getElem_cons_succ, List.getElem_cons_zero, List.setIfInBounds_toArray, List.set_cons_zero, List.set_cons_succ]
        refine wpAnyH_take (i := 4) (oi := ?oiq14) (v := ?vq14) ?hiq14 (by kernel_rfl) (by kernel_rfl) (by kernel_rfl) ?hqq14 ?hyq14 hHeld ?restq14
        case hiq14 => exact rfl
        case hqq14 => exact fun _ _ _ h => h
        case hyq14 =>
          refine Or.inl ⟨by rfl, ?_⟩
          intro w hSw
          go_simp
          (try with_reducible rfl)
        try simp only [Act.put, List.getElem_toArray, List.getElem_cons_succ, List.getElem_cons_zero, List.setIfInBounds_toArray, List.set_cons_zero, List.set_cons_succ]
        refine wpAnyH_take (i := 5) (oi := ?oiq18) (v := ?vq18) ?hiq18 (by kernel_rfl) (by kernel_rfl) (by kernel_rfl) ?hqq18 ?hyq18 hHeld ?restq18
        case hiq18 => exact rfl
        case hqq18 => exact fun _ _ _ h => h
        case hyq18 =>
          refine Or.inl ⟨by rfl, ?_⟩
          intro w hSw
          go_simp
          (try with_reducible rfl)
        try simp only [Act.put, List.getElem_toArray, List.getElem_cons_succ, List.getElem_cons_zero, List.setIfInBounds_toArray, List.set_cons_zero, List.set_cons_succ]
        refine wpAnyH_take (i := 6) (oi := ?oiq19) (v := ?vq19) ?hiq19 (by kernel_rfl) (by kernel_rfl) (by kernel_rfl) ?hqq19 ?hyq19 hHeld ?restq19
        case hiq19 => exact rfl
        case hqq19 => exact fun _ _ _ h => h
        case hyq19 =>
          refine Or.inl ⟨by rfl, ?_⟩
          intro w hSw
          go_simp
          (try with_reducible rfl)
        try simp only [Act.put, List.getElem_toArray, List.getElem_cons_succ, List.getElem_cons_zero, List.setIfInBounds_toArray, List.set_cons_zero, List.set_cons_succ]
        refine wpAnyH_ready (rs := [7]) (by kernel_rfl) (by simp) ?_
        refine AllReadyH.cons (o := ?or20_7) ?hr20_7 ?kr20_7 AllReadyH.nil
        case hr20_7 => exact rfl
        case kr20_7 =>
          intro Kz hKz
          go_simp
          refine (HC.out _ xg2 hs2).mono ?_
          rintro e wa ⟨rfl, rfl⟩
          refine hKz.out _ _ xg2 (fun hHeld => ?_)
          clear hKz Kz
          try simp only [Act.put, List.getElem_toArray, List.getElem_cons_succ, List.getElem_cons_zero, List.setIfInBounds_toArray, List.set_cons_zero, List.set_cons_succ]
          refine wpAnyH_take (i := 8) (oi := ?oiq15) (v := ?vq15) ?hiq15 (by kernel_rfl) (by kernel_rfl) (by kernel_rfl) ?hqq15 ?hyq15 hHeld ?restq15
          case hiq15 => exact rfl
          case hqq15 => exact fun _ _ _ h => h
          case hyq15 =>
            refine Or.inl ⟨by rfl, ?_⟩
            intro w hSw
            go_simp
            (try with_reducible rfl)
          try simp only [Act.put, List.getElem_toArray, List.getElem_cons_succ, List.getElem_cons_zero, List.setIfInBounds_toArray, List.set_cons_zero, List.set_cons_succ]
          refine wpAnyH_take (i := 9) (oi := ?oiq16) (v := ?vq16) ?hiq16 (by kernel_rfl) (by kernel_rfl) (by kernel_rfl) ?hqq16 ?hyq16 hHeld ?restq16
          case hiq16 => exact rfl
          case hqq16 => exact fun _ _ _ h => h
          case hyq16 =>
            refine Or.inl ⟨by rfl, ?_⟩
            intro w hSw
            go_simp
            (try with_reducible rfl)
          try simp only [Act.put, List.getElem_toArray, List.getElem_cons_succ, List.getElem_cons_zero, List.setIfInBounds_toArray, List.set_cons_zero, List.set_cons_succ]
          refine wpAnyH_take (i := 10) (oi := ?oiq17) (v := ?vq17) ?hiq17 (by kernel_rfl) (by kernel_rfl) (by kernel_rfl) ?hqq17 ?hyq17 hHeld ?restq17
          case hiq17 => exact rfl
          case hqq17 => exact fun _ _ _ h => h
          case hyq17 =>
            refine Or.inl ⟨by rfl, ?_⟩
            intro w hSw
            go_simp
            (try with_reducible rfl)
          try simp only [Act.put, List.getElem_toArray, List.getElem_cons_succ, List.getElem_cons_zero, List.setIfInBounds_toArray, List.set_cons_zero, List.set_cons_succ]
          refine wpAnyH_done (by kernel_rfl) ?_ _
          clear hHeld
          go_wp2_with fail
          go_ret
          exact ⟨rfl, hbl⟩

end Go.Proofs.Ytmigkbimdjiigaa
