/- Independent lines: contracts. -/
import Derived.Test.YtmideaancmpafacLineC
import Derived.Test.YtmideaancmpafacKnownT
set_option linter.unusedVariables false
set_option linter.unusedSimpArgs false
namespace Go.Proofs.Ytmideaancmpafac
open Go.RowKit Tinker

attribute [local go_sem] undef

/-- Whether l writes a register that m reads or writes. -/
def distB (l m : L) : Bool := Tinker.wr l && ((rd m).getD l.to.toNat false || (Tinker.wr m && m.to == l.to))
/-- Whether two lines are independent. -/
def indB (l m : L) : Bool := l.op != 7 && (m.op != 7 && (!distB l m && !distB m l))
/-- What Independent answers. -/
def indA (l m : L) : Bool := isLn l && (isLn m && indB l m)
def indC (l m : L) : Int := fe (vl l) (vl m)
theorem vl_cases (l : L) : (isLn l = true ∧ vl l = 0) ∨ (isLn l = false ∧ vl l = 1) := by
  unfold vl; cases isLn l <;> simp
theorem indA_comm (l m : L) : indA l m = indA m l := by
  unfold indA indB
  cases isLn l <;> cases isLn m <;> simp
  cases (l.op != 7) <;> cases (m.op != 7) <;> cases distB l m <;> cases distB m l <;> rfl
theorem indC_comm (l m : L) : indC l m = indC m l := by
  unfold indC
  rcases vl_cases l with ⟨_, h⟩ | ⟨_, h⟩ <;> rcases vl_cases m with ⟨_, h'⟩ | ⟨_, h'⟩ <;> rw [h, h'] <;> rfl

/-- Two lines in their boxes; nothing that was there has turned. -/
structure TwoI (x y : Nat) (l m : L) (w W : World) : Prop where
  bl : W.heap[x]? = some (.cells #[.int .i64 l.op, .int .i64 l.to, .int .i64 l.a, .int .i64 l.b] 43 (0, 0))
  bm : W.heap[y]? = some (.cells #[.int .i64 m.op, .int .i64 m.to, .int .i64 m.a, .int .i64 m.b] 43 (0, 0))
  below : Below w.heap.size w W
theorem TwoI.low {x y : Nat} {l m : L} {w W W1 W' : World} (h : TwoI x y l m w W) (hB : Below W1.heap.size W1 W') (he : W1 = W ∨ W1 = W.drew) : TwoI x y l m w W' := by
  have hb : Below W.heap.size W W' := by
    rcases he with rfl | rfl
    · exact hB
    · exact ⟨hB.os, hB.tape, hB.output, hB.size, hB.block⟩
  exact ⟨hp_below h.bl hb (hp_lt h.bl), hp_below h.bm hb (hp_lt h.bm), h.below.trans (hb.mono h.below.size)⟩
theorem TwoI.new (l m : L) (w : World) : TwoI w.heap.size (w.heap.size + 1) l m w ((w.alloc (.cells #[.int .i64 l.op, .int .i64 l.to, .int .i64 l.a, .int .i64 l.b] 43)).alloc (.cells #[.int .i64 m.op, .int .i64 m.to, .int .i64 m.a, .int .i64 m.b] 43)) :=
  ⟨hp_alloc (hp_new rfl), hp_new (by simp), ((Below.refl _ _).alloc (Nat.le_refl _) _).alloc (by simp) _⟩
theorem TwoI.c0 {x y : Nat} {l m : L} {w W : World} (h : TwoI x y l m w W) : W.cell? ⟨x, 0, none⟩ = some (.int .i64 l.op) := hp_cell h.bl (by rfl)
theorem TwoI.d0 {x y : Nat} {l m : L} {w W : World} (h : TwoI x y l m w W) : W.cell? ⟨y, 0, none⟩ = some (.int .i64 m.op) := hp_cell h.bm (by rfl)
theorem TwoI.c1 {x y : Nat} {l m : L} {w W : World} (h : TwoI x y l m w W) : W.cell? ⟨x, 1, none⟩ = some (.int .i64 l.to) := hp_cell h.bl (by rfl)
theorem TwoI.d1 {x y : Nat} {l m : L} {w W : World} (h : TwoI x y l m w W) : W.cell? ⟨y, 1, none⟩ = some (.int .i64 m.to) := hp_cell h.bm (by rfl)
theorem TwoI.c2 {x y : Nat} {l m : L} {w W : World} (h : TwoI x y l m w W) : W.cell? ⟨x, 2, none⟩ = some (.int .i64 l.a) := hp_cell h.bl (by rfl)
theorem TwoI.d2 {x y : Nat} {l m : L} {w W : World} (h : TwoI x y l m w W) : W.cell? ⟨y, 2, none⟩ = some (.int .i64 m.a) := hp_cell h.bm (by rfl)
theorem TwoI.c3 {x y : Nat} {l m : L} {w W : World} (h : TwoI x y l m w W) : W.cell? ⟨x, 3, none⟩ = some (.int .i64 l.b) := hp_cell h.bl (by rfl)
theorem TwoI.d3 {x y : Nat} {l m : L} {w W : World} (h : TwoI x y l m w W) : W.cell? ⟨y, 3, none⟩ = some (.int .i64 m.b) := hp_cell h.bm (by rfl)

set_option maxRecDepth 100000 in
set_option maxHeartbeats 1000000 in
theorem disturbs_a (l m : L) (w : World) (hl : isLn l = true) (hm : isLn m = true) (hw : Tinker.wr l = false) : Calls Try.prog 91 #[.agg #[.int .i64 l.op, .int .i64 l.to, .int .i64 l.a, .int .i64 l.b], .agg #[.int .i64 m.op, .int .i64 m.to, .int .i64 m.a, .int .i64 m.b]] w fun e w' => e = .returned (.bool (false)) ∧ Below w.heap.size w w' := by
  have HW := Lib.hid (fun w => writes_any l w hl)
  have HW2 := Lib.hid (fun w => writes_any m w hm)
  have HR := Lib.hid (fun w => reads_any m w hm)
  rw [hw] at HW
  clear hw
  unfold lv at HW HW2 HR
  have hI := TwoI.new l m w
  have c0 := hI.c0
  have c1 := hI.c1
  have c2 := hI.c2
  have c3 := hI.c3
  have d0 := hI.d0
  have d1 := hI.d1
  have d2 := hI.d2
  have d3 := hI.d3
  go_enter Try.func91, Try.ntmps91
  go_wp2_with fail
  refine wp_region_held_drew (S := (fun w' => w'.cell? ⟨w.heap.size, 0, none⟩ = some (.int .i64 l.op) ∧ w'.cell? ⟨w.heap.size, 1, none⟩ = some (.int .i64 l.to) ∧ w'.cell? ⟨w.heap.size, 2, none⟩ = some (.int .i64 l.a) ∧ w'.cell? ⟨w.heap.size, 3, none⟩ = some (.int .i64 l.b) ∧ w'.cell? ⟨w.heap.size + 1, 0, none⟩ = some (.int .i64 m.op) ∧ w'.cell? ⟨w.heap.size + 1, 1, none⟩ = some (.int .i64 m.to) ∧ w'.cell? ⟨w.heap.size + 1, 2, none⟩ = some (.int .i64 m.a) ∧ w'.cell? ⟨w.heap.size + 1, 3, none⟩ = some (.int .i64 m.b))) (by kernel_rfl) ?_ (fun hHeld => ?_)
  · exact ⟨hI.c0, hI.c1, hI.c2, hI.c3, hI.d0, hI.d1, hI.d2, hI.d3⟩
  refine wpAnyH_take (i := 0) (oi := ?oi00) (v := ?v00) ?hi00 (by kernel_rfl) (by kernel_rfl) (by kernel_rfl) ?hq00 ?hy00 hHeld ?rest00
  case hi00 => exact rfl
  case hq00 => exact fun _ _ _ h => h
  case hy00 =>
    refine Or.inl ⟨by rfl, ?_⟩
    intro w hSw
    (try dsimp only at hSw)
    go_simp
    (try with_reducible rfl)
  try simp only [Act.put, List.getElem_toArray, List.getElem_cons_succ, List.getElem_cons_zero, List.setIfInBounds_toArray, List.set_cons_zero, List.set_cons_succ]
  refine wpAnyH_ready (rs := [1]) (by kernel_rfl) (by simp) ?_
  refine AllReadyH.cons (o := ?oo01) ?ho01 ?hk01 AllReadyH.nil
  case ho01 => exact rfl
  intro K hK
  go_simp
  go_at_call_of 47 (Value.agg #[.int .i64 l.op, .int .i64 l.to, .int .i64 l.a, .int .i64 l.b]); refine (HW.out _).mono ?_; rintro e wa ⟨rfl, hBa⟩; replace hI := hI.low hBa (by first | exact .inl rfl | exact .inr rfl); clear hBa
  refine hK.out _ _ ?_ (fun hHeld => ?_)
  · exact ⟨hI.c0, hI.c1, hI.c2, hI.c3, hI.d0, hI.d1, hI.d2, hI.d3⟩
  clear hK K
  try simp only [Act.put, List.getElem_toArray, List.getElem_cons_succ, List.getElem_cons_zero, List.setIfInBounds_toArray, List.set_cons_zero, List.set_cons_succ]
  refine wpAnyH_take (i := 2) (oi := ?oi02) (v := ?v02) ?hi02 (by kernel_rfl) (by kernel_rfl) (by kernel_rfl) ?hq02 ?hy02 hHeld ?rest02
  case hi02 => exact rfl
  case hq02 => exact fun _ _ _ h => h
  case hy02 =>
    refine Or.inl ⟨by rfl, ?_⟩
    intro w hSw
    (try dsimp only at hSw)
    go_simp
    (try with_reducible rfl)
  try simp only [Act.put, List.getElem_toArray, List.getElem_cons_succ, List.getElem_cons_zero, List.setIfInBounds_toArray, List.set_cons_zero, List.set_cons_succ]
  refine wpAnyH_take (i := 3) (oi := ?oi03) (v := undef) ?hi03 (by kernel_rfl) (by kernel_rfl) (by kernel_rfl) ?hq03 ?hy03 hHeld ?rest03
  case hi03 => exact rfl
  case hq03 => exact fun _ _ _ h => h
  case hy03 => exact Or.inr ⟨by kernel_rfl, rfl⟩
  try simp only [Act.put, List.getElem_toArray, List.getElem_cons_succ, List.getElem_cons_zero, List.setIfInBounds_toArray, List.set_cons_zero, List.set_cons_succ]
  refine wpAnyH_take (i := 4) (oi := ?oi04) (v := undef) ?hi04 (by kernel_rfl) (by kernel_rfl) (by kernel_rfl) ?hq04 ?hy04 hHeld ?rest04
  case hi04 => exact rfl
  case hq04 => exact fun _ _ _ h => h
  case hy04 => exact Or.inr ⟨by kernel_rfl, rfl⟩
  try simp only [Act.put, List.getElem_toArray, List.getElem_cons_succ, List.getElem_cons_zero, List.setIfInBounds_toArray, List.set_cons_zero, List.set_cons_succ]
  refine wpAnyH_take (i := 5) (oi := ?oi05) (v := undef) ?hi05 (by kernel_rfl) (by kernel_rfl) (by kernel_rfl) ?hq05 ?hy05 hHeld ?rest05
  case hi05 => exact rfl
  case hq05 => exact fun _ _ _ h => h
  case hy05 => exact Or.inr ⟨by kernel_rfl, rfl⟩
  try simp only [Act.put, List.getElem_toArray, List.getElem_cons_succ, List.getElem_cons_zero, List.setIfInBounds_toArray, List.set_cons_zero, List.set_cons_succ]
  refine wpAnyH_take (i := 6) (oi := ?oi06) (v := undef) ?hi06 (by kernel_rfl) (by kernel_rfl) (by kernel_rfl) ?hq06 ?hy06 hHeld ?rest06
  case hi06 => exact rfl
  case hq06 => exact fun _ _ _ h => h
  case hy06 => exact Or.inr ⟨by kernel_rfl, rfl⟩
  try simp only [Act.put, List.getElem_toArray, List.getElem_cons_succ, List.getElem_cons_zero, List.setIfInBounds_toArray, List.set_cons_zero, List.set_cons_succ]
  refine wpAnyH_take (i := 7) (oi := ?oi07) (v := undef) ?hi07 (by kernel_rfl) (by kernel_rfl) (by kernel_rfl) ?hq07 ?hy07 hHeld ?rest07
  case hi07 => exact rfl
  case hq07 => exact fun _ _ _ h => h
  case hy07 => exact Or.inr ⟨by kernel_rfl, rfl⟩
  try simp only [Act.put, List.getElem_toArray, List.getElem_cons_succ, List.getElem_cons_zero, List.setIfInBounds_toArray, List.set_cons_zero, List.set_cons_succ]
  refine wpAnyH_take (i := 8) (oi := ?oi08) (v := undef) ?hi08 (by kernel_rfl) (by kernel_rfl) (by kernel_rfl) ?hq08 ?hy08 hHeld ?rest08
  case hi08 => exact rfl
  case hq08 => exact fun _ _ _ h => h
  case hy08 => exact Or.inr ⟨by kernel_rfl, rfl⟩
  try simp only [Act.put, List.getElem_toArray, List.getElem_cons_succ, List.getElem_cons_zero, List.setIfInBounds_toArray, List.set_cons_zero, List.set_cons_succ]
  refine wpAnyH_take (i := 9) (oi := ?oi09) (v := undef) ?hi09 (by kernel_rfl) (by kernel_rfl) (by kernel_rfl) ?hq09 ?hy09 hHeld ?rest09
  case hi09 => exact rfl
  case hq09 => exact fun _ _ _ h => h
  case hy09 => exact Or.inr ⟨by kernel_rfl, rfl⟩
  try simp only [Act.put, List.getElem_toArray, List.getElem_cons_succ, List.getElem_cons_zero, List.setIfInBounds_toArray, List.set_cons_zero, List.set_cons_succ]
  refine wpAnyH_take (i := 10) (oi := ?oi10) (v := undef) ?hi10 (by kernel_rfl) (by kernel_rfl) (by kernel_rfl) ?hq10 ?hy10 hHeld ?rest10
  case hi10 => exact rfl
  case hq10 => exact fun _ _ _ h => h
  case hy10 => exact Or.inr ⟨by kernel_rfl, rfl⟩
  try simp only [Act.put, List.getElem_toArray, List.getElem_cons_succ, List.getElem_cons_zero, List.setIfInBounds_toArray, List.set_cons_zero, List.set_cons_succ]
  refine wpAnyH_take (i := 11) (oi := ?oi11) (v := undef) ?hi11 (by kernel_rfl) (by kernel_rfl) (by kernel_rfl) ?hq11 ?hy11 hHeld ?rest11
  case hi11 => exact rfl
  case hq11 => exact fun _ _ _ h => h
  case hy11 => exact Or.inr ⟨by kernel_rfl, rfl⟩
  try simp only [Act.put, List.getElem_toArray, List.getElem_cons_succ, List.getElem_cons_zero, List.setIfInBounds_toArray, List.set_cons_zero, List.set_cons_succ]
  refine wpAnyH_take (i := 12) (oi := ?oi12) (v := undef) ?hi12 (by kernel_rfl) (by kernel_rfl) (by kernel_rfl) ?hq12 ?hy12 hHeld ?rest12
  case hi12 => exact rfl
  case hq12 => exact fun _ _ _ h => h
  case hy12 => exact Or.inr ⟨by kernel_rfl, rfl⟩
  try simp only [Act.put, List.getElem_toArray, List.getElem_cons_succ, List.getElem_cons_zero, List.setIfInBounds_toArray, List.set_cons_zero, List.set_cons_succ]
  refine wpAnyH_take (i := 13) (oi := ?oi13) (v := undef) ?hi13 (by kernel_rfl) (by kernel_rfl) (by kernel_rfl) ?hq13 ?hy13 hHeld ?rest13
  case hi13 => exact rfl
  case hq13 => exact fun _ _ _ h => h
  case hy13 => exact Or.inr ⟨by kernel_rfl, rfl⟩
  try simp only [Act.put, List.getElem_toArray, List.getElem_cons_succ, List.getElem_cons_zero, List.setIfInBounds_toArray, List.set_cons_zero, List.set_cons_succ]
  refine wpAnyH_take (i := 14) (oi := ?oi14) (v := undef) ?hi14 (by kernel_rfl) (by kernel_rfl) (by kernel_rfl) ?hq14 ?hy14 hHeld ?rest14
  case hi14 => exact rfl
  case hq14 => exact fun _ _ _ h => h
  case hy14 => exact Or.inr ⟨by kernel_rfl, rfl⟩
  try simp only [Act.put, List.getElem_toArray, List.getElem_cons_succ, List.getElem_cons_zero, List.setIfInBounds_toArray, List.set_cons_zero, List.set_cons_succ]
  refine wpAnyH_take (i := 15) (oi := ?oi15) (v := undef) ?hi15 (by kernel_rfl) (by kernel_rfl) (by kernel_rfl) ?hq15 ?hy15 hHeld ?rest15
  case hi15 => exact rfl
  case hq15 => exact fun _ _ _ h => h
  case hy15 => exact Or.inr ⟨by kernel_rfl, rfl⟩
  try simp only [Act.put, List.getElem_toArray, List.getElem_cons_succ, List.getElem_cons_zero, List.setIfInBounds_toArray, List.set_cons_zero, List.set_cons_succ]
  refine wpAnyH_take (i := 16) (oi := ?oi16) (v := undef) ?hi16 (by kernel_rfl) (by kernel_rfl) (by kernel_rfl) ?hq16 ?hy16 hHeld ?rest16
  case hi16 => exact rfl
  case hq16 => exact fun _ _ _ h => h
  case hy16 => exact Or.inr ⟨by kernel_rfl, rfl⟩
  try simp only [Act.put, List.getElem_toArray, List.getElem_cons_succ, List.getElem_cons_zero, List.setIfInBounds_toArray, List.set_cons_zero, List.set_cons_succ]
  refine wpAnyH_take (i := 17) (oi := ?oi17) (v := undef) ?hi17 (by kernel_rfl) (by kernel_rfl) (by kernel_rfl) ?hq17 ?hy17 hHeld ?rest17
  case hi17 => exact rfl
  case hq17 => exact fun _ _ _ h => h
  case hy17 => exact Or.inr ⟨by kernel_rfl, rfl⟩
  try simp only [Act.put, List.getElem_toArray, List.getElem_cons_succ, List.getElem_cons_zero, List.setIfInBounds_toArray, List.set_cons_zero, List.set_cons_succ]
  refine wpAnyH_take (i := 18) (oi := ?oi18) (v := undef) ?hi18 (by kernel_rfl) (by kernel_rfl) (by kernel_rfl) ?hq18 ?hy18 hHeld ?rest18
  case hi18 => exact rfl
  case hq18 => exact fun _ _ _ h => h
  case hy18 => exact Or.inr ⟨by kernel_rfl, rfl⟩
  try simp only [Act.put, List.getElem_toArray, List.getElem_cons_succ, List.getElem_cons_zero, List.setIfInBounds_toArray, List.set_cons_zero, List.set_cons_succ]
  refine wpAnyH_take (i := 19) (oi := ?oi19) (v := ?v19) ?hi19 (by kernel_rfl) (by kernel_rfl) (by kernel_rfl) ?hq19 ?hy19 hHeld ?rest19
  case hi19 => exact rfl
  case hq19 => exact fun _ _ _ h => h
  case hy19 =>
    refine Or.inl ⟨by rfl, ?_⟩
    intro w hSw
    (try dsimp only at hSw)
    go_simp
    (try with_reducible rfl)
  try simp only [Act.put, List.getElem_toArray, List.getElem_cons_succ, List.getElem_cons_zero, List.setIfInBounds_toArray, List.set_cons_zero, List.set_cons_succ]
  refine wpAnyH_take (i := 20) (oi := ?oi20) (v := ?v20) ?hi20 (by kernel_rfl) (by kernel_rfl) (by kernel_rfl) ?hq20 ?hy20 hHeld ?rest20
  case hi20 => exact rfl
  case hq20 => exact fun _ _ _ h => h
  case hy20 =>
    refine Or.inl ⟨by rfl, ?_⟩
    intro w hSw
    (try dsimp only at hSw)
    go_simp
    (try with_reducible rfl)
  try simp only [Act.put, List.getElem_toArray, List.getElem_cons_succ, List.getElem_cons_zero, List.setIfInBounds_toArray, List.set_cons_zero, List.set_cons_succ]
  refine wpAnyH_done (by kernel_rfl) ?_ _
  all_goals go_wp2_with fail
  all_goals go_ret
  all_goals exact ⟨rfl, hI.below⟩

set_option maxRecDepth 100000 in
set_option maxHeartbeats 1000000 in
theorem disturbs_b (l m : L) (w : World) (hl : isLn l = true) (hm : isLn m = true) (hw : Tinker.wr l = true) (hr : (rd m).getD l.to.toNat false = true) : Calls Try.prog 91 #[.agg #[.int .i64 l.op, .int .i64 l.to, .int .i64 l.a, .int .i64 l.b], .agg #[.int .i64 m.op, .int .i64 m.to, .int .i64 m.a, .int .i64 m.b]] w fun e w' => e = .returned (.bool (true)) ∧ Below w.heap.size w w' := by
  have HW := Lib.hid (fun w => writes_any l w hl)
  have HW2 := Lib.hid (fun w => writes_any m w hm)
  have HR := Lib.hid (fun w => reads_any m w hm)
  obtain ⟨t0, t1⟩ := wr_to hl hw
  have t4 : l.to < 4 := by omega
  have hi := idx_b4 (rd m) (rd_length m) l.to.toNat (by omega)
  rw [show ((l.to.toNat : Nat) : Int) = l.to by omega, hr] at hi
  rw [hw] at HW
  clear hw hr
  unfold lv at HW HW2 HR
  have hI := TwoI.new l m w
  have c0 := hI.c0
  have c1 := hI.c1
  have c2 := hI.c2
  have c3 := hI.c3
  have d0 := hI.d0
  have d1 := hI.d1
  have d2 := hI.d2
  have d3 := hI.d3
  go_enter Try.func91, Try.ntmps91
  go_wp2_with fail
  refine wp_region_held_drew (S := (fun w' => w'.cell? ⟨w.heap.size, 0, none⟩ = some (.int .i64 l.op) ∧ w'.cell? ⟨w.heap.size, 1, none⟩ = some (.int .i64 l.to) ∧ w'.cell? ⟨w.heap.size, 2, none⟩ = some (.int .i64 l.a) ∧ w'.cell? ⟨w.heap.size, 3, none⟩ = some (.int .i64 l.b) ∧ w'.cell? ⟨w.heap.size + 1, 0, none⟩ = some (.int .i64 m.op) ∧ w'.cell? ⟨w.heap.size + 1, 1, none⟩ = some (.int .i64 m.to) ∧ w'.cell? ⟨w.heap.size + 1, 2, none⟩ = some (.int .i64 m.a) ∧ w'.cell? ⟨w.heap.size + 1, 3, none⟩ = some (.int .i64 m.b))) (by kernel_rfl) ?_ (fun hHeld => ?_)
  · exact ⟨hI.c0, hI.c1, hI.c2, hI.c3, hI.d0, hI.d1, hI.d2, hI.d3⟩
  refine wpAnyH_take (i := 0) (oi := ?oi00) (v := ?v00) ?hi00 (by kernel_rfl) (by kernel_rfl) (by kernel_rfl) ?hq00 ?hy00 hHeld ?rest00
  case hi00 => exact rfl
  case hq00 => exact fun _ _ _ h => h
  case hy00 =>
    refine Or.inl ⟨by rfl, ?_⟩
    intro w hSw
    (try dsimp only at hSw)
    go_simp
    (try with_reducible rfl)
  try simp only [Act.put, List.getElem_toArray, List.getElem_cons_succ, List.getElem_cons_zero, List.setIfInBounds_toArray, List.set_cons_zero, List.set_cons_succ]
  refine wpAnyH_ready (rs := [1]) (by kernel_rfl) (by simp) ?_
  refine AllReadyH.cons (o := ?oo01) ?ho01 ?hk01 AllReadyH.nil
  case ho01 => exact rfl
  intro K hK
  go_simp
  go_at_call_of 47 (Value.agg #[.int .i64 l.op, .int .i64 l.to, .int .i64 l.a, .int .i64 l.b]); refine (HW.out _).mono ?_; rintro e wa ⟨rfl, hBa⟩; replace hI := hI.low hBa (by first | exact .inl rfl | exact .inr rfl); clear hBa
  refine hK.out _ _ ?_ (fun hHeld => ?_)
  · exact ⟨hI.c0, hI.c1, hI.c2, hI.c3, hI.d0, hI.d1, hI.d2, hI.d3⟩
  clear hK K
  try simp only [Act.put, List.getElem_toArray, List.getElem_cons_succ, List.getElem_cons_zero, List.setIfInBounds_toArray, List.set_cons_zero, List.set_cons_succ]
  refine wpAnyH_take (i := 2) (oi := ?oi02) (v := ?v02) ?hi02 (by kernel_rfl) (by kernel_rfl) (by kernel_rfl) ?hq02 ?hy02 hHeld ?rest02
  case hi02 => exact rfl
  case hq02 => exact fun _ _ _ h => h
  case hy02 =>
    refine Or.inl ⟨by rfl, ?_⟩
    intro w hSw
    (try dsimp only at hSw)
    go_simp
    (try with_reducible rfl)
  try simp only [Act.put, List.getElem_toArray, List.getElem_cons_succ, List.getElem_cons_zero, List.setIfInBounds_toArray, List.set_cons_zero, List.set_cons_succ]
  refine wpAnyH_take (i := 3) (oi := ?oi03) (v := ?v03) ?hi03 (by kernel_rfl) (by kernel_rfl) (by kernel_rfl) ?hq03 ?hy03 hHeld ?rest03
  case hi03 => exact rfl
  case hq03 => exact fun _ _ _ h => h
  case hy03 =>
    refine Or.inl ⟨by rfl, ?_⟩
    intro w hSw
    (try dsimp only at hSw)
    go_simp
    (try with_reducible rfl)
  try simp only [Act.put, List.getElem_toArray, List.getElem_cons_succ, List.getElem_cons_zero, List.setIfInBounds_toArray, List.set_cons_zero, List.set_cons_succ]
  refine wpAnyH_take (i := 5) (oi := ?oi05) (v := ?v05) ?hi05 (by kernel_rfl) (by kernel_rfl) (by kernel_rfl) ?hq05 ?hy05 hHeld ?rest05
  case hi05 => exact rfl
  case hq05 => exact fun _ _ _ h => h
  case hy05 =>
    refine Or.inl ⟨by rfl, ?_⟩
    intro w hSw
    (try dsimp only at hSw)
    go_simp
    (try with_reducible rfl)
  try simp only [Act.put, List.getElem_toArray, List.getElem_cons_succ, List.getElem_cons_zero, List.setIfInBounds_toArray, List.set_cons_zero, List.set_cons_succ]
  refine wpAnyH_take (i := 6) (oi := ?oi06) (v := ?v06) ?hi06 (by kernel_rfl) (by kernel_rfl) (by kernel_rfl) ?hq06 ?hy06 hHeld ?rest06
  case hi06 => exact rfl
  case hq06 => exact fun _ _ _ h => h
  case hy06 =>
    refine Or.inl ⟨by rfl, ?_⟩
    intro w hSw
    (try dsimp only at hSw)
    go_simp
    (try with_reducible rfl)
  try simp only [Act.put, List.getElem_toArray, List.getElem_cons_succ, List.getElem_cons_zero, List.setIfInBounds_toArray, List.set_cons_zero, List.set_cons_succ]
  refine wpAnyH_ready (rs := [4]) (by kernel_rfl) (by simp) ?_
  refine AllReadyH.cons (o := ?oo04) ?ho04 ?hk04 AllReadyH.nil
  case ho04 => exact rfl
  intro K hK
  go_simp
  go_at_call 77; refine (HR.out _).mono ?_; rintro e wa ⟨rfl, hBa⟩; replace hI := hI.low hBa (by first | exact .inl rfl | exact .inr rfl); clear hBa
  refine hK.out _ _ ?_ (fun hHeld => ?_)
  · exact ⟨hI.c0, hI.c1, hI.c2, hI.c3, hI.d0, hI.d1, hI.d2, hI.d3⟩
  clear hK K
  try simp only [Act.put, List.getElem_toArray, List.getElem_cons_succ, List.getElem_cons_zero, List.setIfInBounds_toArray, List.set_cons_zero, List.set_cons_succ]
  refine wpAnyH_take (i := 7) (oi := ?oi07) (v := ?v07) ?hi07 (by kernel_rfl) (by kernel_rfl) (by kernel_rfl) ?hq07 ?hy07 hHeld ?rest07
  case hi07 => exact rfl
  case hq07 => exact fun _ _ _ h => h
  case hy07 =>
    refine Or.inl ⟨by rfl, ?_⟩
    intro w hSw
    (try dsimp only at hSw)
    go_simp
    (try with_reducible rfl)
  try simp only [Act.put, List.getElem_toArray, List.getElem_cons_succ, List.getElem_cons_zero, List.setIfInBounds_toArray, List.set_cons_zero, List.set_cons_succ]
  refine wpAnyH_take (i := 8) (oi := ?oi08) (v := ?v08) ?hi08 (by kernel_rfl) (by kernel_rfl) (by kernel_rfl) ?hq08 ?hy08 hHeld ?rest08
  case hi08 => exact rfl
  case hq08 => exact fun _ _ _ h => h
  case hy08 =>
    refine Or.inl ⟨by rfl, ?_⟩
    intro w hSw
    (try dsimp only at hSw)
    go_simp
    (try with_reducible rfl)
  try simp only [Act.put, List.getElem_toArray, List.getElem_cons_succ, List.getElem_cons_zero, List.setIfInBounds_toArray, List.set_cons_zero, List.set_cons_succ]
  refine wpAnyH_take (i := 9) (oi := ?oi09) (v := undef) ?hi09 (by kernel_rfl) (by kernel_rfl) (by kernel_rfl) ?hq09 ?hy09 hHeld ?rest09
  case hi09 => exact rfl
  case hq09 => exact fun _ _ _ h => h
  case hy09 => exact Or.inr ⟨by kernel_rfl, rfl⟩
  try simp only [Act.put, List.getElem_toArray, List.getElem_cons_succ, List.getElem_cons_zero, List.setIfInBounds_toArray, List.set_cons_zero, List.set_cons_succ]
  refine wpAnyH_take (i := 10) (oi := ?oi10) (v := undef) ?hi10 (by kernel_rfl) (by kernel_rfl) (by kernel_rfl) ?hq10 ?hy10 hHeld ?rest10
  case hi10 => exact rfl
  case hq10 => exact fun _ _ _ h => h
  case hy10 => exact Or.inr ⟨by kernel_rfl, rfl⟩
  try simp only [Act.put, List.getElem_toArray, List.getElem_cons_succ, List.getElem_cons_zero, List.setIfInBounds_toArray, List.set_cons_zero, List.set_cons_succ]
  refine wpAnyH_take (i := 11) (oi := ?oi11) (v := undef) ?hi11 (by kernel_rfl) (by kernel_rfl) (by kernel_rfl) ?hq11 ?hy11 hHeld ?rest11
  case hi11 => exact rfl
  case hq11 => exact fun _ _ _ h => h
  case hy11 => exact Or.inr ⟨by kernel_rfl, rfl⟩
  try simp only [Act.put, List.getElem_toArray, List.getElem_cons_succ, List.getElem_cons_zero, List.setIfInBounds_toArray, List.set_cons_zero, List.set_cons_succ]
  refine wpAnyH_take (i := 12) (oi := ?oi12) (v := undef) ?hi12 (by kernel_rfl) (by kernel_rfl) (by kernel_rfl) ?hq12 ?hy12 hHeld ?rest12
  case hi12 => exact rfl
  case hq12 => exact fun _ _ _ h => h
  case hy12 => exact Or.inr ⟨by kernel_rfl, rfl⟩
  try simp only [Act.put, List.getElem_toArray, List.getElem_cons_succ, List.getElem_cons_zero, List.setIfInBounds_toArray, List.set_cons_zero, List.set_cons_succ]
  refine wpAnyH_take (i := 13) (oi := ?oi13) (v := undef) ?hi13 (by kernel_rfl) (by kernel_rfl) (by kernel_rfl) ?hq13 ?hy13 hHeld ?rest13
  case hi13 => exact rfl
  case hq13 => exact fun _ _ _ h => h
  case hy13 => exact Or.inr ⟨by kernel_rfl, rfl⟩
  try simp only [Act.put, List.getElem_toArray, List.getElem_cons_succ, List.getElem_cons_zero, List.setIfInBounds_toArray, List.set_cons_zero, List.set_cons_succ]
  refine wpAnyH_take (i := 14) (oi := ?oi14) (v := undef) ?hi14 (by kernel_rfl) (by kernel_rfl) (by kernel_rfl) ?hq14 ?hy14 hHeld ?rest14
  case hi14 => exact rfl
  case hq14 => exact fun _ _ _ h => h
  case hy14 => exact Or.inr ⟨by kernel_rfl, rfl⟩
  try simp only [Act.put, List.getElem_toArray, List.getElem_cons_succ, List.getElem_cons_zero, List.setIfInBounds_toArray, List.set_cons_zero, List.set_cons_succ]
  refine wpAnyH_take (i := 15) (oi := ?oi15) (v := undef) ?hi15 (by kernel_rfl) (by kernel_rfl) (by kernel_rfl) ?hq15 ?hy15 hHeld ?rest15
  case hi15 => exact rfl
  case hq15 => exact fun _ _ _ h => h
  case hy15 => exact Or.inr ⟨by kernel_rfl, rfl⟩
  try simp only [Act.put, List.getElem_toArray, List.getElem_cons_succ, List.getElem_cons_zero, List.setIfInBounds_toArray, List.set_cons_zero, List.set_cons_succ]
  refine wpAnyH_take (i := 16) (oi := ?oi16) (v := undef) ?hi16 (by kernel_rfl) (by kernel_rfl) (by kernel_rfl) ?hq16 ?hy16 hHeld ?rest16
  case hi16 => exact rfl
  case hq16 => exact fun _ _ _ h => h
  case hy16 => exact Or.inr ⟨by kernel_rfl, rfl⟩
  try simp only [Act.put, List.getElem_toArray, List.getElem_cons_succ, List.getElem_cons_zero, List.setIfInBounds_toArray, List.set_cons_zero, List.set_cons_succ]
  refine wpAnyH_take (i := 17) (oi := ?oi17) (v := undef) ?hi17 (by kernel_rfl) (by kernel_rfl) (by kernel_rfl) ?hq17 ?hy17 hHeld ?rest17
  case hi17 => exact rfl
  case hq17 => exact fun _ _ _ h => h
  case hy17 => exact Or.inr ⟨by kernel_rfl, rfl⟩
  try simp only [Act.put, List.getElem_toArray, List.getElem_cons_succ, List.getElem_cons_zero, List.setIfInBounds_toArray, List.set_cons_zero, List.set_cons_succ]
  refine wpAnyH_take (i := 18) (oi := ?oi18) (v := ?v18) ?hi18 (by kernel_rfl) (by kernel_rfl) (by kernel_rfl) ?hq18 ?hy18 hHeld ?rest18
  case hi18 => exact rfl
  case hq18 => exact fun _ _ _ h => h
  case hy18 =>
    refine Or.inl ⟨by rfl, ?_⟩
    intro w hSw
    (try dsimp only at hSw)
    go_simp
    (try with_reducible rfl)
  try simp only [Act.put, List.getElem_toArray, List.getElem_cons_succ, List.getElem_cons_zero, List.setIfInBounds_toArray, List.set_cons_zero, List.set_cons_succ]
  refine wpAnyH_take (i := 19) (oi := ?oi19) (v := ?v19) ?hi19 (by kernel_rfl) (by kernel_rfl) (by kernel_rfl) ?hq19 ?hy19 hHeld ?rest19
  case hi19 => exact rfl
  case hq19 => exact fun _ _ _ h => h
  case hy19 =>
    refine Or.inl ⟨by rfl, ?_⟩
    intro w hSw
    (try dsimp only at hSw)
    go_simp
    (try with_reducible rfl)
  try simp only [Act.put, List.getElem_toArray, List.getElem_cons_succ, List.getElem_cons_zero, List.setIfInBounds_toArray, List.set_cons_zero, List.set_cons_succ]
  refine wpAnyH_take (i := 20) (oi := ?oi20) (v := ?v20) ?hi20 (by kernel_rfl) (by kernel_rfl) (by kernel_rfl) ?hq20 ?hy20 hHeld ?rest20
  case hi20 => exact rfl
  case hq20 => exact fun _ _ _ h => h
  case hy20 =>
    refine Or.inl ⟨by rfl, ?_⟩
    intro w hSw
    (try dsimp only at hSw)
    go_simp
    (try with_reducible rfl)
  try simp only [Act.put, List.getElem_toArray, List.getElem_cons_succ, List.getElem_cons_zero, List.setIfInBounds_toArray, List.set_cons_zero, List.set_cons_succ]
  refine wpAnyH_done (by kernel_rfl) ?_ _
  all_goals go_wp2_with fail
  all_goals go_ret
  all_goals exact ⟨rfl, hI.below⟩

set_option maxRecDepth 100000 in
set_option maxHeartbeats 1000000 in
theorem disturbs_c (l m : L) (w : World) (hl : isLn l = true) (hm : isLn m = true) (hw : Tinker.wr l = true) (hr : (rd m).getD l.to.toNat false = false) (hw2 : Tinker.wr m = false) : Calls Try.prog 91 #[.agg #[.int .i64 l.op, .int .i64 l.to, .int .i64 l.a, .int .i64 l.b], .agg #[.int .i64 m.op, .int .i64 m.to, .int .i64 m.a, .int .i64 m.b]] w fun e w' => e = .returned (.bool (false)) ∧ Below w.heap.size w w' := by
  have HW := Lib.hid (fun w => writes_any l w hl)
  have HW2 := Lib.hid (fun w => writes_any m w hm)
  have HR := Lib.hid (fun w => reads_any m w hm)
  obtain ⟨t0, t1⟩ := wr_to hl hw
  have t4 : l.to < 4 := by omega
  have hi := idx_b4 (rd m) (rd_length m) l.to.toNat (by omega)
  rw [show ((l.to.toNat : Nat) : Int) = l.to by omega, hr] at hi
  rw [hw] at HW
  clear hw hr
  rw [hw2] at HW2
  clear hw2
  unfold lv at HW HW2 HR
  have hI := TwoI.new l m w
  have c0 := hI.c0
  have c1 := hI.c1
  have c2 := hI.c2
  have c3 := hI.c3
  have d0 := hI.d0
  have d1 := hI.d1
  have d2 := hI.d2
  have d3 := hI.d3
  go_enter Try.func91, Try.ntmps91
  go_wp2_with fail
  refine wp_region_held_drew (S := (fun w' => w'.cell? ⟨w.heap.size, 0, none⟩ = some (.int .i64 l.op) ∧ w'.cell? ⟨w.heap.size, 1, none⟩ = some (.int .i64 l.to) ∧ w'.cell? ⟨w.heap.size, 2, none⟩ = some (.int .i64 l.a) ∧ w'.cell? ⟨w.heap.size, 3, none⟩ = some (.int .i64 l.b) ∧ w'.cell? ⟨w.heap.size + 1, 0, none⟩ = some (.int .i64 m.op) ∧ w'.cell? ⟨w.heap.size + 1, 1, none⟩ = some (.int .i64 m.to) ∧ w'.cell? ⟨w.heap.size + 1, 2, none⟩ = some (.int .i64 m.a) ∧ w'.cell? ⟨w.heap.size + 1, 3, none⟩ = some (.int .i64 m.b))) (by kernel_rfl) ?_ (fun hHeld => ?_)
  · exact ⟨hI.c0, hI.c1, hI.c2, hI.c3, hI.d0, hI.d1, hI.d2, hI.d3⟩
  refine wpAnyH_take (i := 0) (oi := ?oi00) (v := ?v00) ?hi00 (by kernel_rfl) (by kernel_rfl) (by kernel_rfl) ?hq00 ?hy00 hHeld ?rest00
  case hi00 => exact rfl
  case hq00 => exact fun _ _ _ h => h
  case hy00 =>
    refine Or.inl ⟨by rfl, ?_⟩
    intro w hSw
    (try dsimp only at hSw)
    go_simp
    (try with_reducible rfl)
  try simp only [Act.put, List.getElem_toArray, List.getElem_cons_succ, List.getElem_cons_zero, List.setIfInBounds_toArray, List.set_cons_zero, List.set_cons_succ]
  refine wpAnyH_ready (rs := [1]) (by kernel_rfl) (by simp) ?_
  refine AllReadyH.cons (o := ?oo01) ?ho01 ?hk01 AllReadyH.nil
  case ho01 => exact rfl
  intro K hK
  go_simp
  go_at_call_of 47 (Value.agg #[.int .i64 l.op, .int .i64 l.to, .int .i64 l.a, .int .i64 l.b]); refine (HW.out _).mono ?_; rintro e wa ⟨rfl, hBa⟩; replace hI := hI.low hBa (by first | exact .inl rfl | exact .inr rfl); clear hBa
  refine hK.out _ _ ?_ (fun hHeld => ?_)
  · exact ⟨hI.c0, hI.c1, hI.c2, hI.c3, hI.d0, hI.d1, hI.d2, hI.d3⟩
  clear hK K
  try simp only [Act.put, List.getElem_toArray, List.getElem_cons_succ, List.getElem_cons_zero, List.setIfInBounds_toArray, List.set_cons_zero, List.set_cons_succ]
  refine wpAnyH_take (i := 2) (oi := ?oi02) (v := ?v02) ?hi02 (by kernel_rfl) (by kernel_rfl) (by kernel_rfl) ?hq02 ?hy02 hHeld ?rest02
  case hi02 => exact rfl
  case hq02 => exact fun _ _ _ h => h
  case hy02 =>
    refine Or.inl ⟨by rfl, ?_⟩
    intro w hSw
    (try dsimp only at hSw)
    go_simp
    (try with_reducible rfl)
  try simp only [Act.put, List.getElem_toArray, List.getElem_cons_succ, List.getElem_cons_zero, List.setIfInBounds_toArray, List.set_cons_zero, List.set_cons_succ]
  refine wpAnyH_take (i := 3) (oi := ?oi03) (v := ?v03) ?hi03 (by kernel_rfl) (by kernel_rfl) (by kernel_rfl) ?hq03 ?hy03 hHeld ?rest03
  case hi03 => exact rfl
  case hq03 => exact fun _ _ _ h => h
  case hy03 =>
    refine Or.inl ⟨by rfl, ?_⟩
    intro w hSw
    (try dsimp only at hSw)
    go_simp
    (try with_reducible rfl)
  try simp only [Act.put, List.getElem_toArray, List.getElem_cons_succ, List.getElem_cons_zero, List.setIfInBounds_toArray, List.set_cons_zero, List.set_cons_succ]
  refine wpAnyH_take (i := 5) (oi := ?oi05) (v := ?v05) ?hi05 (by kernel_rfl) (by kernel_rfl) (by kernel_rfl) ?hq05 ?hy05 hHeld ?rest05
  case hi05 => exact rfl
  case hq05 => exact fun _ _ _ h => h
  case hy05 =>
    refine Or.inl ⟨by rfl, ?_⟩
    intro w hSw
    (try dsimp only at hSw)
    go_simp
    (try with_reducible rfl)
  try simp only [Act.put, List.getElem_toArray, List.getElem_cons_succ, List.getElem_cons_zero, List.setIfInBounds_toArray, List.set_cons_zero, List.set_cons_succ]
  refine wpAnyH_take (i := 6) (oi := ?oi06) (v := ?v06) ?hi06 (by kernel_rfl) (by kernel_rfl) (by kernel_rfl) ?hq06 ?hy06 hHeld ?rest06
  case hi06 => exact rfl
  case hq06 => exact fun _ _ _ h => h
  case hy06 =>
    refine Or.inl ⟨by rfl, ?_⟩
    intro w hSw
    (try dsimp only at hSw)
    go_simp
    (try with_reducible rfl)
  try simp only [Act.put, List.getElem_toArray, List.getElem_cons_succ, List.getElem_cons_zero, List.setIfInBounds_toArray, List.set_cons_zero, List.set_cons_succ]
  refine wpAnyH_ready (rs := [4]) (by kernel_rfl) (by simp) ?_
  refine AllReadyH.cons (o := ?oo04) ?ho04 ?hk04 AllReadyH.nil
  case ho04 => exact rfl
  intro K hK
  go_simp
  go_at_call 77; refine (HR.out _).mono ?_; rintro e wa ⟨rfl, hBa⟩; replace hI := hI.low hBa (by first | exact .inl rfl | exact .inr rfl); clear hBa
  refine hK.out _ _ ?_ (fun hHeld => ?_)
  · exact ⟨hI.c0, hI.c1, hI.c2, hI.c3, hI.d0, hI.d1, hI.d2, hI.d3⟩
  clear hK K
  try simp only [Act.put, List.getElem_toArray, List.getElem_cons_succ, List.getElem_cons_zero, List.setIfInBounds_toArray, List.set_cons_zero, List.set_cons_succ]
  refine wpAnyH_take (i := 7) (oi := ?oi07) (v := ?v07) ?hi07 (by kernel_rfl) (by kernel_rfl) (by kernel_rfl) ?hq07 ?hy07 hHeld ?rest07
  case hi07 => exact rfl
  case hq07 => exact fun _ _ _ h => h
  case hy07 =>
    refine Or.inl ⟨by rfl, ?_⟩
    intro w hSw
    (try dsimp only at hSw)
    go_simp
    (try with_reducible rfl)
  try simp only [Act.put, List.getElem_toArray, List.getElem_cons_succ, List.getElem_cons_zero, List.setIfInBounds_toArray, List.set_cons_zero, List.set_cons_succ]
  refine wpAnyH_take (i := 8) (oi := ?oi08) (v := ?v08) ?hi08 (by kernel_rfl) (by kernel_rfl) (by kernel_rfl) ?hq08 ?hy08 hHeld ?rest08
  case hi08 => exact rfl
  case hq08 => exact fun _ _ _ h => h
  case hy08 =>
    refine Or.inl ⟨by rfl, ?_⟩
    intro w hSw
    (try dsimp only at hSw)
    go_simp
    (try with_reducible rfl)
  try simp only [Act.put, List.getElem_toArray, List.getElem_cons_succ, List.getElem_cons_zero, List.setIfInBounds_toArray, List.set_cons_zero, List.set_cons_succ]
  refine wpAnyH_take (i := 9) (oi := ?oi09) (v := ?v09) ?hi09 (by kernel_rfl) (by kernel_rfl) (by kernel_rfl) ?hq09 ?hy09 hHeld ?rest09
  case hi09 => exact rfl
  case hq09 => exact fun _ _ _ h => h
  case hy09 =>
    refine Or.inl ⟨by rfl, ?_⟩
    intro w hSw
    (try dsimp only at hSw)
    go_simp
    (try with_reducible rfl)
  try simp only [Act.put, List.getElem_toArray, List.getElem_cons_succ, List.getElem_cons_zero, List.setIfInBounds_toArray, List.set_cons_zero, List.set_cons_succ]
  refine wpAnyH_ready (rs := [10]) (by kernel_rfl) (by simp) ?_
  refine AllReadyH.cons (o := ?oo10) ?ho10 ?hk10 AllReadyH.nil
  case ho10 => exact rfl
  intro K hK
  go_simp
  go_at_call_of 47 (Value.agg #[.int .i64 m.op, .int .i64 m.to, .int .i64 m.a, .int .i64 m.b]); refine (HW2.out _).mono ?_; rintro e wa ⟨rfl, hBa⟩; replace hI := hI.low hBa (by first | exact .inl rfl | exact .inr rfl); clear hBa
  refine hK.out _ _ ?_ (fun hHeld => ?_)
  · exact ⟨hI.c0, hI.c1, hI.c2, hI.c3, hI.d0, hI.d1, hI.d2, hI.d3⟩
  clear hK K
  try simp only [Act.put, List.getElem_toArray, List.getElem_cons_succ, List.getElem_cons_zero, List.setIfInBounds_toArray, List.set_cons_zero, List.set_cons_succ]
  refine wpAnyH_take (i := 11) (oi := ?oi11) (v := ?v11) ?hi11 (by kernel_rfl) (by kernel_rfl) (by kernel_rfl) ?hq11 ?hy11 hHeld ?rest11
  case hi11 => exact rfl
  case hq11 => exact fun _ _ _ h => h
  case hy11 =>
    refine Or.inl ⟨by rfl, ?_⟩
    intro w hSw
    (try dsimp only at hSw)
    go_simp
    (try with_reducible rfl)
  try simp only [Act.put, List.getElem_toArray, List.getElem_cons_succ, List.getElem_cons_zero, List.setIfInBounds_toArray, List.set_cons_zero, List.set_cons_succ]
  refine wpAnyH_take (i := 12) (oi := ?oi12) (v := undef) ?hi12 (by kernel_rfl) (by kernel_rfl) (by kernel_rfl) ?hq12 ?hy12 hHeld ?rest12
  case hi12 => exact rfl
  case hq12 => exact fun _ _ _ h => h
  case hy12 => exact Or.inr ⟨by kernel_rfl, rfl⟩
  try simp only [Act.put, List.getElem_toArray, List.getElem_cons_succ, List.getElem_cons_zero, List.setIfInBounds_toArray, List.set_cons_zero, List.set_cons_succ]
  refine wpAnyH_take (i := 13) (oi := ?oi13) (v := undef) ?hi13 (by kernel_rfl) (by kernel_rfl) (by kernel_rfl) ?hq13 ?hy13 hHeld ?rest13
  case hi13 => exact rfl
  case hq13 => exact fun _ _ _ h => h
  case hy13 => exact Or.inr ⟨by kernel_rfl, rfl⟩
  try simp only [Act.put, List.getElem_toArray, List.getElem_cons_succ, List.getElem_cons_zero, List.setIfInBounds_toArray, List.set_cons_zero, List.set_cons_succ]
  refine wpAnyH_take (i := 14) (oi := ?oi14) (v := undef) ?hi14 (by kernel_rfl) (by kernel_rfl) (by kernel_rfl) ?hq14 ?hy14 hHeld ?rest14
  case hi14 => exact rfl
  case hq14 => exact fun _ _ _ h => h
  case hy14 => exact Or.inr ⟨by kernel_rfl, rfl⟩
  try simp only [Act.put, List.getElem_toArray, List.getElem_cons_succ, List.getElem_cons_zero, List.setIfInBounds_toArray, List.set_cons_zero, List.set_cons_succ]
  refine wpAnyH_take (i := 15) (oi := ?oi15) (v := undef) ?hi15 (by kernel_rfl) (by kernel_rfl) (by kernel_rfl) ?hq15 ?hy15 hHeld ?rest15
  case hi15 => exact rfl
  case hq15 => exact fun _ _ _ h => h
  case hy15 => exact Or.inr ⟨by kernel_rfl, rfl⟩
  try simp only [Act.put, List.getElem_toArray, List.getElem_cons_succ, List.getElem_cons_zero, List.setIfInBounds_toArray, List.set_cons_zero, List.set_cons_succ]
  refine wpAnyH_take (i := 16) (oi := ?oi16) (v := undef) ?hi16 (by kernel_rfl) (by kernel_rfl) (by kernel_rfl) ?hq16 ?hy16 hHeld ?rest16
  case hi16 => exact rfl
  case hq16 => exact fun _ _ _ h => h
  case hy16 => exact Or.inr ⟨by kernel_rfl, rfl⟩
  try simp only [Act.put, List.getElem_toArray, List.getElem_cons_succ, List.getElem_cons_zero, List.setIfInBounds_toArray, List.set_cons_zero, List.set_cons_succ]
  refine wpAnyH_take (i := 17) (oi := ?oi17) (v := ?v17) ?hi17 (by kernel_rfl) (by kernel_rfl) (by kernel_rfl) ?hq17 ?hy17 hHeld ?rest17
  case hi17 => exact rfl
  case hq17 => exact fun _ _ _ h => h
  case hy17 =>
    refine Or.inl ⟨by rfl, ?_⟩
    intro w hSw
    (try dsimp only at hSw)
    go_simp
    (try with_reducible rfl)
  try simp only [Act.put, List.getElem_toArray, List.getElem_cons_succ, List.getElem_cons_zero, List.setIfInBounds_toArray, List.set_cons_zero, List.set_cons_succ]
  refine wpAnyH_take (i := 18) (oi := ?oi18) (v := ?v18) ?hi18 (by kernel_rfl) (by kernel_rfl) (by kernel_rfl) ?hq18 ?hy18 hHeld ?rest18
  case hi18 => exact rfl
  case hq18 => exact fun _ _ _ h => h
  case hy18 =>
    refine Or.inl ⟨by rfl, ?_⟩
    intro w hSw
    (try dsimp only at hSw)
    go_simp
    (try with_reducible rfl)
  try simp only [Act.put, List.getElem_toArray, List.getElem_cons_succ, List.getElem_cons_zero, List.setIfInBounds_toArray, List.set_cons_zero, List.set_cons_succ]
  refine wpAnyH_take (i := 19) (oi := ?oi19) (v := ?v19) ?hi19 (by kernel_rfl) (by kernel_rfl) (by kernel_rfl) ?hq19 ?hy19 hHeld ?rest19
  case hi19 => exact rfl
  case hq19 => exact fun _ _ _ h => h
  case hy19 =>
    refine Or.inl ⟨by rfl, ?_⟩
    intro w hSw
    (try dsimp only at hSw)
    go_simp
    (try with_reducible rfl)
  try simp only [Act.put, List.getElem_toArray, List.getElem_cons_succ, List.getElem_cons_zero, List.setIfInBounds_toArray, List.set_cons_zero, List.set_cons_succ]
  refine wpAnyH_take (i := 20) (oi := ?oi20) (v := ?v20) ?hi20 (by kernel_rfl) (by kernel_rfl) (by kernel_rfl) ?hq20 ?hy20 hHeld ?rest20
  case hi20 => exact rfl
  case hq20 => exact fun _ _ _ h => h
  case hy20 =>
    refine Or.inl ⟨by rfl, ?_⟩
    intro w hSw
    (try dsimp only at hSw)
    go_simp
    (try with_reducible rfl)
  try simp only [Act.put, List.getElem_toArray, List.getElem_cons_succ, List.getElem_cons_zero, List.setIfInBounds_toArray, List.set_cons_zero, List.set_cons_succ]
  refine wpAnyH_done (by kernel_rfl) ?_ _
  all_goals go_wp2_with fail
  all_goals go_ret
  all_goals exact ⟨rfl, hI.below⟩

set_option maxRecDepth 100000 in
set_option maxHeartbeats 1000000 in
theorem disturbs_d (l m : L) (w : World) (hl : isLn l = true) (hm : isLn m = true) (hw : Tinker.wr l = true) (hr : (rd m).getD l.to.toNat false = false) (hw2 : Tinker.wr m = true) : Calls Try.prog 91 #[.agg #[.int .i64 l.op, .int .i64 l.to, .int .i64 l.a, .int .i64 l.b], .agg #[.int .i64 m.op, .int .i64 m.to, .int .i64 m.a, .int .i64 m.b]] w fun e w' => e = .returned (.bool (m.to == l.to)) ∧ Below w.heap.size w w' := by
  have HW := Lib.hid (fun w => writes_any l w hl)
  have HW2 := Lib.hid (fun w => writes_any m w hm)
  have HR := Lib.hid (fun w => reads_any m w hm)
  obtain ⟨t0, t1⟩ := wr_to hl hw
  have t4 : l.to < 4 := by omega
  have hi := idx_b4 (rd m) (rd_length m) l.to.toNat (by omega)
  rw [show ((l.to.toNat : Nat) : Int) = l.to by omega, hr] at hi
  rw [hw] at HW
  clear hw hr
  rw [hw2] at HW2
  clear hw2
  unfold lv at HW HW2 HR
  have hI := TwoI.new l m w
  have c0 := hI.c0
  have c1 := hI.c1
  have c2 := hI.c2
  have c3 := hI.c3
  have d0 := hI.d0
  have d1 := hI.d1
  have d2 := hI.d2
  have d3 := hI.d3
  go_enter Try.func91, Try.ntmps91
  go_wp2_with fail
  first | (go_region_held3 (fun w' => w'.cell? ⟨w.heap.size, 0, none⟩ = some (.int .i64 l.op) ∧ w'.cell? ⟨w.heap.size, 1, none⟩ = some (.int .i64 l.to) ∧ w'.cell? ⟨w.heap.size, 2, none⟩ = some (.int .i64 l.a) ∧ w'.cell? ⟨w.heap.size, 3, none⟩ = some (.int .i64 l.b) ∧ w'.cell? ⟨w.heap.size + 1, 0, none⟩ = some (.int .i64 m.op) ∧ w'.cell? ⟨w.heap.size + 1, 1, none⟩ = some (.int .i64 m.to) ∧ w'.cell? ⟨w.heap.size + 1, 2, none⟩ = some (.int .i64 m.a) ∧ w'.cell? ⟨w.heap.size + 1, 3, none⟩ = some (.int .i64 m.b)) (first | exact ⟨hI.c0, hI.c1, hI.c2, hI.c3, hI.d0, hI.d1, hI.d2, hI.d3⟩ | go_keep) (first | (go_at_call_of 47 (Value.agg #[.int .i64 l.op, .int .i64 l.to, .int .i64 l.a, .int .i64 l.b]); refine (HW.out _).mono ?_; rintro e wa ⟨rfl, hBa⟩; replace hI := hI.low hBa (by first | exact .inl rfl | exact .inr rfl); clear hBa; clear c0 c1 c2 c3 d0 d1 d2 d3; have c0 := hI.c0; have c1 := hI.c1; have c2 := hI.c2; have c3 := hI.c3; have d0 := hI.d0; have d1 := hI.d1; have d2 := hI.d2; have d3 := hI.d3) | (go_at_call 77; refine (HR.out _).mono ?_; rintro e wa ⟨rfl, hBa⟩; replace hI := hI.low hBa (by first | exact .inl rfl | exact .inr rfl); clear hBa; clear c0 c1 c2 c3 d0 d1 d2 d3; have c0 := hI.c0; have c1 := hI.c1; have c2 := hI.c2; have c3 := hI.c3; have d0 := hI.d0; have d1 := hI.d1; have d2 := hI.d2; have d3 := hI.d3) | (go_at_call_of 47 (Value.agg #[.int .i64 m.op, .int .i64 m.to, .int .i64 m.a, .int .i64 m.b]); refine (HW2.out _).mono ?_; rintro e wa ⟨rfl, hBa⟩; replace hI := hI.low hBa (by first | exact .inl rfl | exact .inr rfl); clear hBa; clear c0 c1 c2 c3 d0 d1 d2 d3; have c0 := hI.c0; have c1 := hI.c1; have c2 := hI.c2; have c3 := hI.c3; have d0 := hI.d0; have d1 := hI.d1; have d2 := hI.d2; have d3 := hI.d3))) | skip
  all_goals go_wp2_with fail
  all_goals go_ret
  all_goals exact ⟨rfl, hI.below⟩

theorem disturbs_any (l m : L) (w : World) (hl : isLn l = true) (hm : isLn m = true) : Calls Try.prog 91 #[lv l, lv m] w fun e w' => e = .returned (.bool (distB l m)) ∧ Below w.heap.size w w' := by
  unfold distB lv
  cases hw : Tinker.wr l
  · exact disturbs_a l m w hl hm hw
  · cases hr : (rd m).getD l.to.toNat false
    · cases hw2 : Tinker.wr m
      · exact disturbs_c l m w hl hm hw hr hw2
      · exact disturbs_d l m w hl hm hw hr hw2
    · exact disturbs_b l m w hl hm hw hr

end Go.Proofs.Ytmideaancmpafac
