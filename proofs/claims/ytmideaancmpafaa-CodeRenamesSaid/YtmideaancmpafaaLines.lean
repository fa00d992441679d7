/- CodeLines: the walk. -/
import Derived.Test.YtmideaancmpafaaLineC
import Derived.Test.YtmideaancmpafaaKnownT
set_option linter.unusedVariables false
set_option linter.unusedSimpArgs false
namespace Go.Proofs.Ytmideaancmpafaa
open Go.RowKit Tinker

/-- What holds on the way through the law: the box of the line, the two lists, nothing that was there has turned. -/
structure LnI (x : Nat) (l : L) (a b : Option Addr) (r : List Int) (w W : World) : Prop where
  bl : W.heap[x]? = some (.cells #[.int .i64 l.op, .int .i64 l.to, .int .i64 l.a, .int .i64 l.b] 40 (0, 0))
  ia : IntsAt W a r
  ib : IntsAt W b r
  below : Below w.heap.size w W
theorem LnI.low {x : Nat} {l : L} {a b : Option Addr} {r : List Int} {w W W1 W' : World} (h : LnI x l a b r w W) (hB : Below W1.heap.size W1 W') (he : W1 = W ∨ W1 = W.drew) : LnI x l a b r w W' := by
  have hb : Below W.heap.size W W' := by
    rcases he with rfl | rfl
    · exact hB
    · exact ⟨hB.os, hB.tape, hB.output, hB.size, hB.block⟩
  exact ⟨hp_below h.bl hb (hp_lt h.bl), h.ia.below hb (Nat.le_refl _), h.ib.below hb (Nat.le_refl _), h.below.trans (hb.mono h.below.size)⟩
theorem LnI.c0 {x : Nat} {l : L} {a b : Option Addr} {r : List Int} {w W : World} (h : LnI x l a b r w W) : W.cell? ⟨x, 0, none⟩ = some (.int .i64 l.op) := hp_cell h.bl (by rfl)
theorem LnI.c1 {x : Nat} {l : L} {a b : Option Addr} {r : List Int} {w W : World} (h : LnI x l a b r w W) : W.cell? ⟨x, 1, none⟩ = some (.int .i64 l.to) := hp_cell h.bl (by rfl)
theorem LnI.c2 {x : Nat} {l : L} {a b : Option Addr} {r : List Int} {w W : World} (h : LnI x l a b r w W) : W.cell? ⟨x, 2, none⟩ = some (.int .i64 l.a) := hp_cell h.bl (by rfl)
theorem LnI.c3 {x : Nat} {l : L} {a b : Option Addr} {r : List Int} {w W : World} (h : LnI x l a b r w W) : W.cell? ⟨x, 3, none⟩ = some (.int .i64 l.b) := hp_cell h.bl (by rfl)

theorem sameI_self (r : List Int) : sameI r r = true := by simp [sameI]
theorem same_self (n : Nat) (a b : Option Addr) (ca cb : Nat) (r : List Int) (W : World) (hn : r.length = n) (h1 : IntsAt W a r) (h2 : IntsAt W b r) (hm : n ≤ 1000) :
    Calls Try.prog 26 #[.slice a n ca, .slice b n cb] W fun e w' => e = .returned (.bool true) ∧ Below W.heap.size W w' := by
  subst hn
  have h := same_any a b ca cb r r W h1 h2 (by omega)
  rw [sameI_self] at h
  exact h
theorem rdA_len (l : L) : (rdA l).length ≤ 4 := by
  unfold rdA; split
  · have := plcTo_length (rd l) (rd l).length; rw [rd_length] at this; unfold plc; rw [rd_length]; exact this
  · simp

set_option maxRecDepth 100000 in
set_option maxHeartbeats 1000000 in
theorem codeLines_walk (l : L) (w : World) : Calls Try.prog 6 #[lv l] w fun e w' => e = .returned (.bool true) ∧ Below w.heap.size w w' := by
  have H1 := Lib.hid (fun w => reads_A l w)
  have H2 := Lib.hid (fun w => rReads_A l w)
  have H3 := Lib.hid (fun w => writes_A l w)
  have H4 := Lib.hid (fun w => rWrites_A l w)
  have H5 := Lib.hid (fun w => validateLine_any l w)
  have H6 := Lib.hid (fun w => rValidateLine_any l w)
  have HR := rdA_len l
  unfold lv at H1 H2 H3 H4 H5 H6 ⊢
  generalize hr : rdA l = r at H1 H2 HR
  generalize vl l = c at H1 H2 H3 H4 H5 H6
  generalize wrN l = n at H3 H4
  generalize wrB l = x at H3 H4
  clear hr
  generalize hrl : r.length = rl at HR
  have HRL := Lib.hid hrl
  go_enter Try.func6, Try.ntmps6
  go_wp2_with fail
  refine (H1.out _).mono ?_
  intro e w1 hG
  obtain ⟨a1, c1, rfl, hown, hB⟩ := hG
  rw [HRL.out]
  have hI : LnI w.heap.size l a1 a1 r w w1 := ⟨hp_below (hp_new rfl) hB (by simp), (ints_of_own hown).1, (ints_of_own hown).1, ((Below.refl _ _).alloc (Nat.le_refl _) _).trans (hB.mono (by simp))⟩
  have a0 := hI.c0
  have a1' := hI.c1
  have a2 := hI.c2
  have a3 := hI.c3
  clear hown hB hrl
  go_wp2_with fail
  refine (H2.out _).mono ?_
  intro e w2 hG
  obtain ⟨b1, c2, rfl, hown, hB⟩ := hG
  rw [HRL.out]
  have hJ : LnI w.heap.size l a1 b1 r w w2 := ⟨(hI.low hB (.inl rfl)).bl, (hI.low hB (.inl rfl)).ia, (ints_of_own hown).1, (hI.low hB (.inl rfl)).below⟩
  clear a0 a1' a2 a3 hI hown hB
  have a0 := hJ.c0
  have a1' := hJ.c1
  have a2 := hJ.c2
  have a3 := hJ.c3
  go_wp2_with fail
  refine (H3.out _).mono ?_
  rintro e w3 ⟨rfl, hB⟩
  have hI := hJ.low hB (.inl rfl)
  clear a0 a1' a2 a3 hJ hB
  have a0 := hI.c0
  have a1' := hI.c1
  have a2 := hI.c2
  have a3 := hI.c3
  go_wp2_with fail
  refine (H4.out _).mono ?_
  rintro e w4 ⟨rfl, hB⟩
  have hJ := hI.low hB (.inl rfl)
  clear a0 a1' a2 a3 hI hB
  have a0 := hJ.c0
  have a1' := hJ.c1
  have a2 := hJ.c2
  have a3 := hJ.c3
  go_wp2_with fail
  go_region_held3 (fun w' => w'.cell? ⟨w.heap.size, 0, none⟩ = some (.int .i64 l.op) ∧ w'.cell? ⟨w.heap.size, 1, none⟩ = some (.int .i64 l.to) ∧ w'.cell? ⟨w.heap.size, 2, none⟩ = some (.int .i64 l.a) ∧ w'.cell? ⟨w.heap.size, 3, none⟩ = some (.int .i64 l.b)) (first | exact ⟨hJ.c0, hJ.c1, hJ.c2, hJ.c3⟩ | go_keep) (first | (go_at_call 34; refine (H5.out _).mono ?_; rintro e wa ⟨rfl, hBa⟩; replace hJ := hJ.low hBa (by first | exact .inl rfl | exact .inr rfl); clear a0 a1' a2 a3 hBa; have a0 := hJ.c0; have a1' := hJ.c1; have a2 := hJ.c2; have a3 := hJ.c3) | (go_at_call 35; refine (H6.out _).mono ?_; rintro e wa ⟨rfl, hBa⟩; replace hJ := hJ.low hBa (by first | exact .inl rfl | exact .inr rfl); clear a0 a1' a2 a3 hBa; have a0 := hJ.c0; have a1' := hJ.c1; have a2 := hJ.c2; have a3 := hJ.c3) | (go_at_call 26; refine (same_self rl _ _ _ _ r _ HRL.out ?_ ?_ (by omega)).mono ?_; exact hJ.ia; exact hJ.ib; rintro e wa ⟨rfl, hBa⟩; replace hJ := hJ.low hBa (by first | exact .inl rfl | exact .inr rfl); clear hBa) | (go_at_call 17; refine (known_true _).mono ?_; rintro e wa ⟨rfl, hBa⟩; replace hJ := hJ.low hBa (by first | exact .inl rfl | exact .inr rfl); clear hBa))
  all_goals go_wp2_with fail
  all_goals go_ret
  all_goals exact ⟨rfl, hJ.below⟩

end Go.Proofs.Ytmideaancmpafaa
