/- Several texts in one. -/
import Derived.Test.YtikblaebfpdngaaHtH
import Derived.Maps.OwnSet
import Derived.DeepKeys4
import Derived.Deep.RegionHeld
import Derived.Test.YtikblaebfpdngaaHtL
/- countOrders of story: the map of what is known, the closure that calls itself. -/
set_option linter.unusedVariables false
set_option linter.unusedSimpArgs false
namespace Tinker
/-- So many calls at most. -/
def cB : Nat → Nat
  | 0 => 1
  | f + 1 => 1 + 8 * cB f
theorem cB_le {f : Nat} (hf : f ≤ 8) : cB f ≤ 100000000 := by
  have h : f = 0 ∨ f = 1 ∨ f = 2 ∨ f = 3 ∨ f = 4 ∨ f = 5 ∨ f = 6 ∨ f = 7 ∨ f = 8 := by omega
  rcases h with rfl | rfl | rfl | rfl | rfl | rfl | rfl | rfl | rfl <;> decide
theorem cB_pos (f : Nat) : 1 ≤ cB f := by cases f <;> simp [cB]
/-- In how many ways the first k of a list go on. -/
def sumW (h : List (List E)) (s : Nat) (l : List Nat) : Nat := (l.map fun m => waysN h (s ||| 2 ^ m)).sum
theorem sumW_step {h : List (List E)} {s k m : Nat} {l : List Nat} (hm : l[k]? = some m) : sumW h s (l.take (k + 1)) = sumW h s (l.take k) + waysN h (s ||| 2 ^ m) := by
  unfold sumW
  rw [List.take_add_one, hm, List.map_append, List.sum_append]
  simp
theorem sumW_le {h : List (List E)} (h8 : h.length ≤ 8) (s : Nat) : ∀ l : List Nat, sumW h s l ≤ l.length * 16777216
  | [] => by simp [sumW]
  | a :: l => by
    have ih := sumW_le h8 s l
    have := waysN_le h8 (s := s ||| 2 ^ a)
    unfold sumW at ih ⊢
    rw [List.map_cons, List.sum_cons, List.length_cons]
    omega
theorem or_256 {s m : Nat} (hs : s < 256) (hm : m < 8) : s ||| 2 ^ m < 256 := by
  have := Nat.or_lt_two_pow (n := 8) hs (Nat.pow_lt_pow_right (by decide : 1 < 2) hm)
  exact this
end Tinker
namespace Go.Proofs.Ytikblaebfpdngaa
open Go.RowKit Go.Maps Tinker

theorem m8_inj {s t : Nat} (hs : s < 256) (ht : t < 256) (h : m8 s = m8 t) : s = t := by
  apply Nat.eq_of_testBit_eq
  intro i
  rcases Nat.lt_or_ge i 8 with hi | hi
  · rw [← m8_get s hi, ← m8_get t hi, h]
  · rw [Nat.testBit_lt_two_pow (Nat.lt_of_lt_of_le hs (show 256 ≤ 2 ^ i from Nat.pow_le_pow_right (by decide : 0 < 2) hi)), Nat.testBit_lt_two_pow (Nat.lt_of_lt_of_le ht (show 256 ≤ 2 ^ i from Nat.pow_le_pow_right (by decide : 0 < 2) hi))]
/-! The map -/
theorem laidOutD : laidOutB Try.prog = true := by kernel_rfl
theorem rowD : (97 : TypeId) < Try.prog.types.size := of_decide_eq_true (by kernel_rfl)
theorem wideD : (match Try.prog.underlying 97 with | some (.array _ _) | some (.struct _) => true | _ => false) = true := by rw [Try.underlying97]
set_option maxRecDepth 100000 in
theorem lawD : Keyed Try.prog 97 := Keyed.of_law (deep_law_laid laidOutD (m := 2) (by omega) rowD (by kernel_rfl) wideD)
theorem map_boolI : ∀ l l' : List Bool, l.map Value.bool = l'.map Value.bool → l = l'
  | [], [], _ => rfl
  | [], _ :: _, e => by cases e
  | _ :: _, [], e => by cases e
  | a :: l, b :: l', e => by
    rw [List.map_cons, List.map_cons] at e
    injection e with e1 e2
    injection e1 with e1
    rw [e1, map_boolI l l' e2]
/-- What a set of repairs reads as, as a key. -/
def kD (s : Nat) : Lit := .string (keyBytes ((m8 s).map Lit.bool))
set_option maxRecDepth 100000 in
theorem keyD8 (b0 b1 b2 b3 b4 b5 b6 b7 : Bool) : keyOf Try.prog 97 (.agg #[.bool b0, .bool b1, .bool b2, .bool b3, .bool b4, .bool b5, .bool b6, .bool b7]) = some (.string (keyBytes [.bool b0, .bool b1, .bool b2, .bool b3, .bool b4, .bool b5, .bool b6, .bool b7])) := by kernel_rfl
theorem keyD (s : Nat) : keyOf Try.prog 97 (.agg (bv (m8 s))) = some (kD s) := keyD8 _ _ _ _ _ _ _ _
theorem kD_ne {s t : Nat} (hs : s < 256) (ht : t < 256) (h : s ≠ t) : kD s ≠ kD t := fun e => by
  have h1 := keyD s
  rw [e] at h1
  have h2 := lawD.inj h1 (keyD t)
  injection h2 with h2
  have h3 : m8 s = m8 t := by
    have := congrArg Array.toList h2
    unfold bv at this
    rw [List.toList_toArray, List.toList_toArray] at this
    exact map_boolI _ _ this
  exact h (m8_inj hs ht h3)
def rW (v : Value) : Option (DataW Value × List MemPlace) := some (.held v, [])
theorem zeroW (w : World) : (zeroValue 3).run Try.prog w = .ok (.int .i64 0) w := by kernel_rfl
/-- The block b is a map in which only what is right stands, at most m entries. -/
def MapD (h : List (List E)) (W : World) (b m : Nat) : Prop := ∃ D : DataW Value, W.ownsMap Try.prog 97 rW b m D ∧ ∀ t, t < 256 → Maps.has D (kD t) = true → D.atKey (kD t) (.held (.int .i64 0)) = .held (.int .i64 (waysN h t))
theorem MapD.new (h : List (List E)) (w : World) : MapD h (w.alloc (.map #[] 0)) w.heap.size 0 :=
  ⟨_, World.ownsMap_made w Try.prog 97 rW, fun t _ ht => by cases ht⟩
theorem MapD.low {h : List (List E)} {W W' : World} {b m : Nat} (hM : MapD h W b m) (hB : Below W.heap.size W W') : MapD h W' b m := by
  obtain ⟨D, h1, h2⟩ := hM
  exact ⟨D, h1.kept (row := none) ⟨hB.os, hB.tape, hB.output, hB.size, fun k hk _ => hB.block k hk⟩ (by simp), h2⟩
theorem MapD.lt {h : List (List E)} {W : World} {b m : Nat} (hM : MapD h W b m) : b < W.heap.size := by obtain ⟨D, h1, _⟩ := hM; exact h1.lt

/-- A look-up at the operation. -/
theorem wpList_look_ways {w : World} {ops : Array Oper} {rest : List Oper} {o : Oper} {a : Act} {Q : Exit → Act → World → Prop} (hg : o.guard = none) (m x : Operand) (hop : o.op = Op.lookup 95 m x true)
    (h : List (List E)) (b n s : Nat) (hm : a.eval m = .map (some b)) (hM : MapD h w b n) (hs : s < 256) (hx : a.eval x = .agg (bv (m8 s)))
    (hK1 : wpList Try.prog ops Q rest (a.put o.dst (.tuple #[.int .i64 (waysN h s), .bool true])) w) (hK2 : ∀ v, wpList Try.prog ops Q rest (a.put o.dst (.tuple #[v, .bool false])) w) : wpList Try.prog ops Q (o :: rest) a w := by
  obtain ⟨D, h1, h2⟩ := hM
  refine wpList_lookup_own_ok w hg m x 95 hop 97 3 lawD Try.underlying95 rW (zeroW w) (.held (.int .i64 0)) [] rfl b n D hm h1 (.agg (bv (m8 s))) (kD s) hx (keyD s) ?_
  intro v ps hv
  cases hh : Maps.has D (kD s) with
  | false => exact hK2 v
  | true =>
    rw [h2 s hs hh] at hv
    unfold rW at hv
    injection hv with hv
    injection hv with hv1 hv2
    injection hv1 with hv1
    rw [hv1]
    exact hK1
/-- A store at the operation. -/
theorem wpList_store_ways {w : World} {ops : Array Oper} {rest : List Oper} {o : Oper} {a : Act} {Q : Exit → Act → World → Prop} (hg : o.guard = none) (m x v : Operand) (hop : o.op = Op.mapUpdate 95 m x v)
    (h : List (List E)) (b n s : Nat) (hm : a.eval m = .map (some b)) (hM : MapD h w b n) (hn : n < 1000000000) (hs : s < 256) (hx : a.eval x = .agg (bv (m8 s))) (hv : a.eval v = .int .i64 (waysN h s))
    (hK : ∀ w', MapD h w' b (n + 1) → Off b w w' → wpList Try.prog ops Q rest (a.put o.dst undef) w') : wpList Try.prog ops Q (o :: rest) a w := by
  obtain ⟨D, h1, h2⟩ := hM
  have hT := h1.tidy lawD
  refine wpList_mapUpdate_own w hg m x v 95 hop 97 3 lawD Try.underlying95 rW b n D hm h1 (by unfold maxLen; omega) (.agg (bv (m8 s))) (.int .i64 (waysN h s)) (kD s) hx hv (keyD s) (.held (.int .i64 (waysN h s))) [] rfl ?_
  intro w' h7 h8
  refine hK w' ⟨_, h7, fun t ht hh => ?_⟩ ⟨h8.os, h8.tape, h8.output, h8.size, fun k hk hne => h8.block k hk (by intro e; injection e with e; exact hne e)⟩
  by_cases hst : s = t
  · subst hst
    exact atKey_put_same hT.isMap (show WideAt.IsKeyLit (kD s) from trivial) _ _
  · have hne : kD t ≠ kD s := kD_ne ht hs (fun e => hst e.symm)
    rw [has_put_other hne] at hh
    rw [atKey_put_other hne]
    exact h2 t ht hh

/-- What the closure leans on. -/
structure CntI (M : Nat) (H G : Value) (h : List (List E)) (m : Nat) (W : World) : Prop where
  bh : W.heap[M]? = some (.cells #[H] 57 (0, 0))
  bm : MapD h W (M + 1) m
  bk : W.heap[M + 1 + 1]? = some (.cells #[.map (some (M + 1))] 95 (0, 0))
  bf : W.heap[M + 1 + 1 + 1]? = some (.cells #[G] 96 (0, 0))
theorem CntI.low {M : Nat} {H G : Value} {h : List (List E)} {m : Nat} {W W' : World} (hI : CntI M H G h m W) (hb : Below W.heap.size W W') : CntI M H G h m W' :=
  ⟨hp_below hI.bh hb (hp_lt hI.bh), hI.bm.low hb, hp_below hI.bk hb (hp_lt hI.bk), hp_below hI.bf hb (hp_lt hI.bf)⟩
theorem CntI.put {M : Nat} {H G : Value} {h : List (List E)} {m : Nat} {W W' : World} (hI : CntI M H G h m W) (hM : MapD h W' (M + 1) (m + 1)) (ho : Off (M + 1) W W') : CntI M H G h (m + 1) W' :=
  ⟨(ho.block _ (hp_lt hI.bh) (by omega)).trans hI.bh, hM, (ho.block _ (hp_lt hI.bk) (by omega)).trans hI.bk, (ho.block _ (hp_lt hI.bf) (by omega)).trans hI.bf⟩

set_option maxRecDepth 100000 in
set_option maxHeartbeats 4000000 in
theorem count_any (g : Option Addr) (cg : Nat) (h : List (List E)) (w : World) (hh : RowsEAt w g h) (h8 : h.length ≤ 8) (hm : ∀ x ∈ h, x.length ≤ 1000) : ∀ (f s m : Nat) (W : World), leftO h s = f → ClosedO h s → s < 256 → Below w.heap.size w W → w.heap.size + 4 ≤ W.heap.size → m + cB f ≤ 500000000 →
    CntI w.heap.size (.slice g h.length cg) (.func (.func 81) #[] #[.pointer (some ⟨w.heap.size + 1 + 1, 0, none⟩), .pointer (some ⟨w.heap.size, 0, none⟩), .pointer (some ⟨w.heap.size + 1 + 1 + 1, 0, none⟩)]) h m W →
    Calls Try.prog 81 #[.agg (bv (m8 s)), .pointer (some ⟨w.heap.size + 1 + 1, 0, none⟩), .pointer (some ⟨w.heap.size, 0, none⟩), .pointer (some ⟨w.heap.size + 1 + 1 + 1, 0, none⟩)] W fun e W' => e = .returned (.int .i64 (waysN h s)) ∧ ∃ m', m' ≤ m + cB f ∧ CntI w.heap.size (.slice g h.length cg) (.func (.func 81) #[] #[.pointer (some ⟨w.heap.size + 1 + 1, 0, none⟩), .pointer (some ⟨w.heap.size, 0, none⟩), .pointer (some ⟨w.heap.size + 1 + 1 + 1, 0, none⟩)]) h m' W' ∧ Off (w.heap.size + 1) W W' := by
  intro f
  induction f using Nat.strongRecOn with
  | ind f ih =>
    intro s m W hf hcl hs hB hsz hmb hI
    have HR := Lib.hid (fun W h1 => ready_any g cg h s W h1 h8 hm)
    have HH := Lib.hid hh
    have HB := Lib.hid hB
    have HIH := Lib.hid ih
    have HF := Lib.hid hf
    have HCL := Lib.hid hcl
    obtain ⟨M, hM⟩ : ∃ M, M = w.heap.size := ⟨_, rfl⟩
    have HM := Lib.hid hM
    rw [← hM] at hI hsz ⊢
    have hk0 := heap_new W (.cells (bv (m8 s)) 97)
    have hbk : Below W.heap.size W (W.alloc (.cells (bv (m8 s)) 97)) := (Below.refl _ _).alloc (Nat.le_refl _) _
    have hI0 := hI.low hbk
    generalize hw0 : W.alloc (.cells (bv (m8 s)) 97) = w0 at *
    have HW0 := Lib.hid hw0
    have HK0 := Lib.hid hk0
    have HBK := Lib.hid hbk
    have HI0 := Lib.hid hI0
    have HINF := Lib.hid (info_done8 (m8 s) (m8_len _))
    have y0 := hp_cell hI0.bk (j := 0) rfl
    have y1 := hp_cell hI0.bh (j := 0) rfl
    clear hw0 hk0 hbk hI0 hI hB hf hcl hM ih hh
    go_enter Try.func81, Try.ntmps81
    go_upto_region 1 with fail
    rw [HW0.out]
    go_wp2_with (first | (refine wpList_load_row rfl 97 (.tmp 4) rfl W.heap.size rfl 97 _ (0, 0) _ HK0.out Try.underlying97 rfl HINF.out ?_) | (at_lookup; refine wpList_look_ways rfl _ _ rfl h (M + 1) m s rfl HI0.out.bm hs rfl ?_ ?_))
    · go_ret
      exact ⟨rfl, m, by omega, HI0.out, Off.low HBK.out⟩
    · intro vv
      clear y0
      go_wp2_with (refine wpList_load_row rfl 97 (.tmp 4) rfl W.heap.size rfl 97 _ (0, 0) _ HK0.out Try.underlying97 rfl HINF.out ?_)
      have HBW := Lib.hid (show Below M w w0 by rw [HM.out]; exact HB.out.trans (HBK.out.mono HB.out.size))
      refine (HR.out _ (HH.out.below HBW.out (by rw [HM.out]; exact Nat.le_refl _))).mono ?_
      rintro e w1 ⟨a1, c1, rfl, ho, hB1⟩
      rw [ints_len] at ho ⊢
      have HLM := Lib.hid (fun x => (rdyL_mem (h := h) (m := x) HCL.out).1)
      have HLE := Lib.hid (fun e => waysN_end (h := h) HCL.out e)
      have HLS := Lib.hid (fun e => waysN_sum (h := h) HCL.out e)
      have HLN := Lib.hid (fun e => mt (rdyL_nil (h := h) HCL.out).2 e)
      have hll : (rdyL h s).length ≤ 8 := by
        unfold rdyL
        have := List.length_filter_le (rdyB h s) (List.range h.length)
        rw [List.length_range] at this
        omega
      obtain ⟨L, hL⟩ : ∃ L, L = rdyL h s := ⟨_, rfl⟩
      rw [← hL] at ho HLM HLE HLS HLN hll ⊢
      have HI1 := Lib.hid (HI0.out.low hB1)
      have HK1 := Lib.hid (hp_below HK0.out hB1 (hp_lt HK0.out))
      have HO := Lib.hid ho
      have HF1 := Lib.hid (Off.low (g := M + 1) (HBK.out.trans (hB1.mono HBK.out.size)))
      have HBW1 := Lib.hid (HBW.out.trans (hB1.mono (by have := HBK.out.size; omega)))
      have hbs := HBK.out.size
      clear ho hB1 hL y1 HI0 HK0 HW0
      by_cases hn : L.length = 0
      · have HE := Lib.hid (HLE.out (List.eq_nil_of_length_eq_zero hn))
        rw [hn]
        clear HIH HR HH HLS
        go_wp2_with fail
        go_ret
        exact ⟨by rw [HE.out]; rfl, m, by omega, HI1.out, HF1.out⟩
      · have hne : L ≠ [] := fun e => hn (by rw [e]; rfl)
        have hn0 : ((L.length : Int) == 0) = false := by simpa using hne
        have HS := Lib.hid (show sumW h s L = waysN h s from (HLS.out hne).symm)
        obtain ⟨f', hf'⟩ : ∃ f', f = f' + 1 := by
          have h0 := HLN.out hne
          rw [HF.out] at h0
          exact ⟨f - 1, by omega⟩
        have HFF := Lib.hid hf'
        have hcb : cB f = 1 + 8 * cB f' := by rw [hf']; rfl
        have HSL := Lib.hid (fun k => sumW_le h8 s (L.take k))
        clear HLE HLS HLN HR HH hne hn hf'
        go_wp2_with fail
        go_loopw [9, 28] (fun s9 s28 wr => ∃ k mk : Nat, k ≤ L.length ∧ s28 = .int .i64 k ∧ s9 = .int .i64 (sumW h s (L.take k) : Nat) ∧ CntI M (.slice g h.length cg) (.func (.func 81) #[] #[.pointer (some ⟨M + 1 + 1, 0, none⟩), .pointer (some ⟨M, 0, none⟩), .pointer (some ⟨M + 1 + 1 + 1, 0, none⟩)]) h mk wr ∧ mk ≤ m + k * cB f' ∧ wr.heap[W.heap.size]? = some (.cells (bv (m8 s)) 97 (0, 0)) ∧ wr.ownsRow w0.heap.size 3 1 (.slice a1 L.length c1) L.length ((ints L).map (Value.int .i64)) ∧ Off (M + 1) W wr) (fun _ s28 _ => L.length - (intOf s28).toNat)
        case atStart => exact ⟨0, m, Nat.zero_le _, rfl, rfl, HI1.out, by omega, HK1.out, HO.out, HF1.out⟩
        case round =>
          obtain ⟨k, mk, hk, rfl, rfl, hI1, hmk, hK1, hO1, hF1⟩ := hrel
          have HI1 := Lib.hid hI1
          have HK1 := Lib.hid hK1
          have HO1 := Lib.hid hO1
          have HOF := Lib.hid hF1
          have hwr := hF1.size
          clear hI1 hK1 hF1 HO HF1
          by_cases hlt : k < L.length
          · obtain ⟨gb, rfl⟩ := own_form hO1 (by omega)
            obtain ⟨j, hj⟩ := get_of_lt hlt
            have c0 := own_intsH hO1 (k := k) (x := (j : Int)) (by unfold ints; rw [List.getElem?_map, hj]; rfl)
            obtain ⟨hjl, hjf⟩ := HLM.out j (mem_of_get hj)
            have hj8 : j < 8 := by omega
            have HCN := Lib.hid (closed_next HCL.out hjl hjf)
            have HLF := Lib.hid (show leftO h (s ||| 2 ^ j) = f' by have := left_put hjl (freB_iff.1 hjf).1; rw [HF.out, HFF.out] at this; omega)
            have HST := Lib.hid (sumW_step (h := h) (s := s) hj)
            obtain ⟨q, hq⟩ : ∃ q : Nat → Bool, q = fun i => s.testBit i := ⟨_, rfl⟩
            have HQ := Lib.hid hq
            clear hq
            have HWI := Lib.hid (fun W => show Calls Try.prog 83 #[.agg #[.bool (q 0), .bool (q 1), .bool (q 2), .bool (q 3), .bool (q 4), .bool (q 5), .bool (q 6), .bool (q 7)], .int .i64 j] W (fun e w' => e = .returned (.agg (bv (m8 (s ||| 2 ^ j)))) ∧ Below W.heap.size W w') from by rw [HQ.out]; exact with_any s j W hj8)
            have hsl := HSL.out k
            have hwn := waysN_le h8 (s := s ||| 2 ^ j)
            rw [List.length_take, Nat.min_eq_left hk] at hsl
            have HWR := Lib.hid (show IntKind.i64.wrap (((sumW h s (L.take k) : Nat) : Int) + (waysN h (s ||| 2 ^ j) : Nat)) = ((sumW h s (L.take k) : Nat) : Int) + (waysN h (s ||| 2 ^ j) : Nat) from IntWalk.i64_in _ (by omega))
            have hmul : k * cB f' + cB f' ≤ 8 * cB f' := by
              have : (k + 1) * cB f' ≤ 8 * cB f' := Nat.mul_le_mul_right _ (by omega)
              rwa [Nat.succ_mul] at this
            have HBR := Lib.hid (show Below w.heap.size w wr from HB.out.trans (HOF.out.below (by rw [← HM.out]; omega) (by rw [← HM.out]; omega)))
            have HFE := Lib.hid (show f' < f by rw [HFF.out]; omega)
            clear hO1 hj hjf hsl hwn HSL HLM
            go_upto_region 11 with fail
            try rename_i Qb Kb hKb
            refine wp_region_held_drew (S := (fun W2 => W2.heap[M + 1 + 1 + 1]? = some (.cells #[.func (.func 81) #[] #[.pointer (some ⟨M + 1 + 1, 0, none⟩), .pointer (some ⟨M, 0, none⟩), .pointer (some ⟨M + 1 + 1 + 1, 0, none⟩)]] 96 (0, 0)) ∧ W2.heap[W.heap.size]? = some (.cells (bv (m8 s)) 97 (0, 0)))) (by kernel_rfl) ?_ (fun hHeld => ?_)
            · exact ⟨hp_drew HI1.out.bf, hp_drew HK1.out⟩
            have HID := Lib.hid (HI1.out.low (Below.refl _ _).drew)
            have HBD := Lib.hid ((Below.refl wr.heap.size wr).drew)
            have HKD := Lib.hid (hp_drew HK1.out)
            generalize wr.drew = Wd at *
            refine wpAnyH_take (i := 0) (oi := ?oiq1) (v := (.int .i64 (sumW h s (L.take k) : Nat))) ?hiq1 (by kernel_rfl) (by kernel_rfl) (by kernel_rfl) ?hqq1 ?hyq1 hHeld ?restq1
            case hiq1 => exact rfl
            case hqq1 => exact fun _ _ _ h => h
            case hyq1 =>
              refine Or.inl ⟨by rfl, ?_⟩
              intro w hSw
              go_simp
              (try with_reducible rfl)
            try simp only [Act.put, List.getElem_toArray, List.getElem_cons_succ, List.getElem_cons_zero, List.setIfInBounds_toArray, List.set_cons_zero, List.set_cons_succ]
            refine wpAnyH_take (i := 1) (oi := ?oiq2) (v := (.func (.func 81) #[] #[.pointer (some ⟨M + 1 + 1, 0, none⟩), .pointer (some ⟨M, 0, none⟩), .pointer (some ⟨M + 1 + 1 + 1, 0, none⟩)])) ?hiq2 (by kernel_rfl) (by kernel_rfl) (by kernel_rfl) ?hqq2 ?hyq2 hHeld ?restq2
            case hiq2 => exact rfl
            case hqq2 => exact fun _ _ _ h => h
            case hyq2 =>
              refine Or.inl ⟨by rfl, ?_⟩
              intro w hSw
              have y2 := hp_cell hSw.1 (j := 0) rfl
              go_simp
              (try with_reducible rfl)
            try simp only [Act.put, List.getElem_toArray, List.getElem_cons_succ, List.getElem_cons_zero, List.setIfInBounds_toArray, List.set_cons_zero, List.set_cons_succ]
            refine wpAnyH_take (i := 3) (oi := ?oiq3) (v := (.int .i64 j)) ?hiq3 (by kernel_rfl) (by kernel_rfl) (by kernel_rfl) ?hqq3 ?hyq3 hHeld ?restq3
            case hiq3 => exact rfl
            case hqq3 => exact fun _ _ _ h => h
            case hyq3 =>
              refine Or.inl ⟨by rfl, ?_⟩
              intro w hSw
              go_simp
              (try with_reducible rfl)
            try simp only [Act.put, List.getElem_toArray, List.getElem_cons_succ, List.getElem_cons_zero, List.setIfInBounds_toArray, List.set_cons_zero, List.set_cons_succ]
            refine wpAnyH_take (i := 2) (oi := ?oiq4) (v := (.agg #[.bool (q 0), .bool (q 1), .bool (q 2), .bool (q 3), .bool (q 4), .bool (q 5), .bool (q 6), .bool (q 7)])) ?hiq4 (by kernel_rfl) (by kernel_rfl) (by kernel_rfl) ?hqq4 ?hyq4 hHeld ?restq4
            case hiq4 => exact rfl
            case hqq4 => exact fun _ _ _ h => h
            case hyq4 =>
              refine Or.inl ⟨by rfl, ?_⟩
              intro w hSw
              have z : ∀ i, i < 8 → w.cell? ⟨W.heap.size, i, none⟩ = some (.bool (q i)) := fun i hi => by have := hp_cell hSw.2 (bv_get (m8 s) i (by rw [m8_len]; exact hi)); rw [m8_get s hi] at this; rw [HQ.out]; exact this
              have z0 := z 0 (by omega)
              have z1 := z 1 (by omega)
              have z2 := z 2 (by omega)
              have z3 := z 3 (by omega)
              have z4 := z 4 (by omega)
              have z5 := z 5 (by omega)
              have z6 := z 6 (by omega)
              have z7 := z 7 (by omega)
              clear z
              go_simp
              (try with_reducible rfl)
            try simp only [Act.put, List.getElem_toArray, List.getElem_cons_succ, List.getElem_cons_zero, List.setIfInBounds_toArray, List.set_cons_zero, List.set_cons_succ]
            refine wpAnyH_ready (rs := [4]) (by kernel_rfl) (by simp) ?_
            refine AllReadyH.cons (o := ?or8_4) ?hr8_4 ?kr8_4 AllReadyH.nil
            case hr8_4 => exact rfl
            case kr8_4 =>
              intro K hK
              go_simp
              refine (HWI.out _).mono ?_
              rintro e w5 ⟨rfl, hB5⟩
              have HI5 := Lib.hid (HID.out.low hB5)
              have HK5 := Lib.hid (hp_below HKD.out hB5 (hp_lt HKD.out))
              have HB5 := Lib.hid (HBD.out.trans (hB5.mono HBD.out.size))
              clear hB5
              refine hK.out _ _ ⟨HI5.out.bf, HK5.out⟩ (fun hHeld => ?_)
              clear hK K
              try simp only [Act.put, List.getElem_toArray, List.getElem_cons_succ, List.getElem_cons_zero, List.setIfInBounds_toArray, List.set_cons_zero, List.set_cons_succ]
              refine wpAnyH_ready (rs := [5]) (by kernel_rfl) (by simp) ?_
              refine AllReadyH.cons (o := ?or7_5) ?hr7_5 ?kr7_5 AllReadyH.nil
              case hr7_5 => exact rfl
              case kr7_5 =>
                intro K hK
                go_simp
                have hsz5 : M + 4 ≤ w5.heap.size := by have := HB5.out.size; have := HOF.out.size; omega
                have HC := Lib.hid (HIH.out f' HFE.out (s ||| 2 ^ j) mk w5 HLF.out HCN.out (or_256 hs hj8) (HBR.out.trans (HB5.out.mono HBR.out.size)) (by rw [← HM.out]; exact hsz5) (by omega) (by rw [← HM.out]; exact HI5.out))
                rw [← HM.out] at HC
                refine HC.out.mono ?_
                rintro e w6 ⟨rfl, mk2, hmk2, hI6, hF6⟩
                have HI6 := Lib.hid hI6
                have HF6 := Lib.hid ((HOF.out.trans (Off.low HB5.out)).trans hF6)
                have HK6 := Lib.hid ((hF6.block W.heap.size (hp_lt HK5.out) (by omega)).trans HK5.out)
                have HO6 := Lib.hid (own_offH (own_below HO1.out HB5.out (Nat.le_refl _)) hF6 (by omega))
                clear hI6 hF6 HC
                refine hK.out _ _ ⟨HI6.out.bf, HK6.out⟩ (fun hHeld => ?_)
                clear hK K
                try simp only [Act.put, List.getElem_toArray, List.getElem_cons_succ, List.getElem_cons_zero, List.setIfInBounds_toArray, List.set_cons_zero, List.set_cons_succ]
                refine wpAnyH_take (i := 6) (oi := ?oiq5) (v := (.int .i64 ((sumW h s (L.take k) : Nat) + (waysN h (s ||| 2 ^ j) : Nat)))) ?hiq5 (by kernel_rfl) (by kernel_rfl) (by kernel_rfl) ?hqq5 ?hyq5 hHeld ?restq5
                case hiq5 => exact rfl
                case hqq5 => exact fun _ _ _ h => h
                case hyq5 =>
                  refine Or.inl ⟨by rfl, ?_⟩
                  intro w hSw
                  go_simp
                  (try rw [HWR.out])
                  (try with_reducible rfl)
                try simp only [Act.put, List.getElem_toArray, List.getElem_cons_succ, List.getElem_cons_zero, List.setIfInBounds_toArray, List.set_cons_zero, List.set_cons_succ]
                refine wpAnyH_take (i := 7) (oi := ?oiq6) (v := (.int .i64 ((sumW h s (L.take k) : Nat) + (waysN h (s ||| 2 ^ j) : Nat)))) ?hiq6 (by kernel_rfl) (by kernel_rfl) (by kernel_rfl) ?hqq6 ?hyq6 hHeld ?restq6
                case hiq6 => exact rfl
                case hqq6 => exact fun _ _ _ h => h
                case hyq6 =>
                  refine Or.inl ⟨by rfl, ?_⟩
                  intro w hSw
                  go_simp
                  (try with_reducible rfl)
                try simp only [Act.put, List.getElem_toArray, List.getElem_cons_succ, List.getElem_cons_zero, List.setIfInBounds_toArray, List.set_cons_zero, List.set_cons_succ]
                refine wpAnyH_done (by kernel_rfl) ?_ _
                clear hHeld
                refine hKb _ _ ?_
                go_wp2_with fail
                go_roundw
                case rel => exact ⟨k + 1, mk2, by omega, by go_num, by rw [HST.out]; rfl, HI6.out, by rw [Nat.succ_mul]; omega, HK6.out, HO6.out, HF6.out⟩
                case measure => simp [intOf]; omega
          · obtain rfl : k = L.length := by omega
            rw [List.take_length, HS.out]
            have y3 := hp_cell HI1.out.bk (j := 0) rfl
            have hmm : L.length * cB f' ≤ 8 * cB f' := Nat.mul_le_mul_right _ hll
            clear hO1 HO1
            go_wp2_with (first | (refine wpList_load_row rfl 97 (.tmp 4) rfl W.heap.size rfl 97 _ (0, 0) _ HK1.out Try.underlying97 rfl HINF.out ?_) | (at_mapUpdate; refine wpList_store_ways rfl _ _ _ rfl h (M + 1) mk s rfl HI1.out.bm (by omega) hs rfl rfl ?_))
            intro w7 hM7 hF7
            have HI7 := Lib.hid (HI1.out.put hM7 hF7)
            have HF7 := Lib.hid (HOF.out.trans hF7)
            clear hM7 hF7
            go_wp2_with fail
            go_ret
            exact ⟨rfl, mk + 1, by omega, HI7.out, HF7.out⟩

end Go.Proofs.Ytikblaebfpdngaa

/- countOrders and CountOrders of story. -/
set_option linter.unusedVariables false
set_option linter.unusedSimpArgs false
namespace Go.Proofs.Ytikblaebfpdngaa
open Go.RowKit Go.Maps Tinker

theorem bv0 : (#[Value.bool false, .bool false, .bool false, .bool false, .bool false, .bool false, .bool false, .bool false] : Array Value) = bv (m8 0) := rfl

set_option maxRecDepth 100000 in
set_option maxHeartbeats 1000000 in
theorem hCount_any (g : Option Addr) (cg : Nat) (h : List (List E)) (w : World) (hh : RowsEAt w g h) (h8 : h.length ≤ 8) (hm : ∀ x ∈ h, x.length ≤ 1000) :
    Calls Try.prog 63 #[.slice g h.length cg] w fun e w' => e = .returned (.int .i64 (cntO h)) ∧ Below w.heap.size w w' := by
  have hmm := @run_makeMap Try.prog
  have HC := Lib.hid (fun W hB hs hI => count_any g cg h w hh h8 hm (leftO h 0) 0 0 W rfl (closed_0 h) (by decide) hB hs (by have := cB_le (f := leftO h 0) (by rw [left_0]; exact h8); omega) hI)
  obtain ⟨w4, hw4⟩ : ∃ w4, w4 = (((w.alloc (.cells #[.slice g h.length cg] 57)).alloc (.map #[] 0)).alloc (.cells #[.map (some (w.heap.size + 1))] 95)).alloc (.cells #[.func (.func 81) #[] #[.pointer (some ⟨w.heap.size + 1 + 1, 0, none⟩), .pointer (some ⟨w.heap.size, 0, none⟩), .pointer (some ⟨w.heap.size + 1 + 1 + 1, 0, none⟩)]] 96) := ⟨_, rfl⟩
  have hI : Below w.heap.size w w4 ∧ w.heap.size + 4 ≤ w4.heap.size ∧ CntI w.heap.size (.slice g h.length cg) (.func (.func 81) #[] #[.pointer (some ⟨w.heap.size + 1 + 1, 0, none⟩), .pointer (some ⟨w.heap.size, 0, none⟩), .pointer (some ⟨w.heap.size + 1 + 1 + 1, 0, none⟩)]) h 0 w4 := by
    rw [hw4]
    have e1 := heap_new w (.cells #[.slice g h.length cg] 57)
    have b1 : Below w.heap.size w (w.alloc (.cells #[.slice g h.length cg] 57)) := (Below.refl _ _).alloc (Nat.le_refl _) _
    have s1 : (w.alloc (.cells #[.slice g h.length cg] 57)).heap.size = w.heap.size + 1 := by simp
    generalize w.alloc (.cells #[.slice g h.length cg] 57) = w1 at *
    have e2 := MapD.new h w1
    have b2 := (Below.refl w1.heap.size w1).alloc (Nat.le_refl _) (.map #[] 0)
    have s2 : (w1.alloc (.map #[] 0)).heap.size = w.heap.size + 1 + 1 := by simp [s1]
    rw [s1] at e2
    generalize w1.alloc (.map #[] 0) = w2 at *
    have e3 := heap_new w2 (.cells #[.map (some (w.heap.size + 1))] 95)
    have b3 := (Below.refl w2.heap.size w2).alloc (Nat.le_refl _) (.cells #[.map (some (w.heap.size + 1))] 95)
    have s3 : (w2.alloc (.cells #[.map (some (w.heap.size + 1))] 95)).heap.size = w.heap.size + 1 + 1 + 1 := by simp [s2]
    rw [s2] at e3
    generalize w2.alloc (.cells #[.map (some (w.heap.size + 1))] 95) = w3 at *
    have e4 := heap_new w3 (.cells #[.func (.func 81) #[] #[.pointer (some ⟨w.heap.size + 1 + 1, 0, none⟩), .pointer (some ⟨w.heap.size, 0, none⟩), .pointer (some ⟨w.heap.size + 1 + 1 + 1, 0, none⟩)]] 96)
    have b4 := (Below.refl w3.heap.size w3).alloc (Nat.le_refl _) (.cells #[.func (.func 81) #[] #[.pointer (some ⟨w.heap.size + 1 + 1, 0, none⟩), .pointer (some ⟨w.heap.size, 0, none⟩), .pointer (some ⟨w.heap.size + 1 + 1 + 1, 0, none⟩)]] 96)
    have s4 : (w3.alloc (.cells #[.func (.func 81) #[] #[.pointer (some ⟨w.heap.size + 1 + 1, 0, none⟩), .pointer (some ⟨w.heap.size, 0, none⟩), .pointer (some ⟨w.heap.size + 1 + 1 + 1, 0, none⟩)]] 96)).heap.size = w.heap.size + 1 + 1 + 1 + 1 := by simp [s3]
    rw [s3] at e4
    generalize w3.alloc (.cells #[.func (.func 81) #[] #[.pointer (some ⟨w.heap.size + 1 + 1, 0, none⟩), .pointer (some ⟨w.heap.size, 0, none⟩), .pointer (some ⟨w.heap.size + 1 + 1 + 1, 0, none⟩)]] 96) = w4 at *
    have b34 := b3.trans (b4.mono b3.size)
    have b24 := b2.trans (b34.mono b2.size)
    exact ⟨b1.trans (b24.mono b1.size), by omega, hp_below e1 b24 (by omega), e2.low b34, hp_below e3 b4 (by omega), e4⟩
  obtain ⟨hB, hs, hI⟩ := hI
  have HQ := Lib.hid (HC.out w4 hB hs hI)
  have HB := Lib.hid hB
  have HI := Lib.hid hI
  have y0 := hp_cell hI.bf (j := 0) rfl
  have HW := Lib.hid hw4
  have hsz := hB.size
  clear hB hI HC hw4 hs
  go_enter Try.func63, Try.ntmps63
  go_upto_region 4 with fail
  rw [← HW.out]
  clear hmm
  go_wp2_with fail
  try rw [bv0]
  refine HQ.out.mono ?_
  rintro e w5 ⟨rfl, m', hm', hI5, hF5⟩
  have HF := Lib.hid hF5
  clear hI5 hF5 y0
  go_wp2_with fail
  go_ret
  exact ⟨ret_int (by rw [waysN_0]), HB.out.trans (HF.out.below (by omega) hsz)⟩

set_option maxRecDepth 100000 in
set_option maxHeartbeats 400000 in
theorem stCount_any (a g : Option Addr) (ca cg : Nat) (ps : List L) (h : List (List E)) (w : World) (hp : LinesAt w a ps) (hh : RowsEAt w g h) (hpl : ps.length ≤ 1000) (hhl : h.length ≤ 1000) (hm : ∀ x ∈ h, x.length ≤ 1000) :
    Calls Try.prog 36 #[.slice a ps.length ca, .slice g h.length cg] w fun e w' => e = .returned (.tuple #[.int .i64 (if vst ps h = 0 then (cntO h : Int) else 0), .int .i64 (vst ps h)]) ∧ Below w.heap.size w w' := by
  have HV := Lib.hid (stVal_any a g ca cg ps h w hp hh hpl hhl hm)
  by_cases hz : vst ps h = 0
  · have h8 := (vst_ok hz).2.1
    have HP := Lib.hid (fun w h1 => hCount_any g cg h w h1 h8 hm)
    have HH := Lib.hid hh
    rw [if_pos hz, hz]
    rw [hz] at HV
    clear hz hp hh hm
    go_enter Try.func36, Try.ntmps36
    go_wp2_with fail
    refine HV.out.mono ?_
    rintro e w1 ⟨rfl, hB⟩
    have HB := Lib.hid hB
    clear hB
    go_wp2_with fail
    refine (HP.out _ (HH.out.below HB.out (Nat.le_refl _))).mono ?_
    rintro e w2 ⟨rfl, hB⟩
    have HB2 := Lib.hid (HB.out.trans (hB.mono HB.out.size))
    clear hB
    go_wp2_with fail
    go_ret2
    exact ⟨rfl, HB2.out⟩
  · rw [if_neg hz]
    have hz1 : (vst ps h != 0) = true := by simpa using hz
    clear hz hp hh hm
    generalize vst ps h = c at HV hz1 ⊢
    go_enter Try.func36, Try.ntmps36
    go_wp2_with fail
    refine HV.out.mono ?_
    rintro e w1 ⟨rfl, hB⟩
    have HB := Lib.hid hB
    clear hB
    go_wp2_with fail
    go_ret2
    exact ⟨rfl, HB.out⟩

end Go.Proofs.Ytikblaebfpdngaa
