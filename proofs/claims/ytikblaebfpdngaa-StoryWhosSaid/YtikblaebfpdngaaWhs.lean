/- Several texts in one. -/
import Derived.Test.YtikblaebfpdngaaHtL
import Derived.Test.YtikblaebfpdngaaHdE
import Derived.BigQuiet
import Derived.Test.YtikblaebfpdngaaLng7
/- A range over a function that may be left early by a return, with a guard; slices.Backward on a history so. -/
set_option linter.unusedVariables false
set_option linter.unusedSimpArgs false
namespace Go.Proofs.Ytikblaebfpdngaa
open Go.RowKit Go.Shelf Tinker
attribute [local go_sem] Oper.semAt_some

/-- The iterator yields xs one after another, each where the guard G holds, until a round says 'no more'. -/
def YieldsSome {α : Type} (G : List α → α → Prop) (F : Fence) (n : Nat) (P : Program) (g : Nat) (lb : Array Value) (en : α → Array Value) (Kp : World → World → Prop) (xs : List α) (w : World) : Prop :=
  ∀ (l : Nat) (J Jx : List α → World → Prop) (W : World), Below w.heap.size w W → AbidesFrom W.heap.size J →
    (∀ pre x V, G pre x → J pre V → YieldAt F (n - 1) P l (en x) V fun e V' => (e = .returned (.bool true) ∧ J (pre ++ [x]) V' ∧ Kp V V') ∨ (e = .returned (.bool false) ∧ Jx (pre ++ [x]) V')) →
    J [] W → CallsIn F n P g (#[.func (.yield l) #[] #[]] ++ lb) W fun e W' => (∃ v, e = .returned v) ∧ (J xs W' ∨ ∃ pre x, G pre x ∧ Jx (pre ++ [x]) W')

set_option maxHeartbeats 1000000 in
theorem rangeFunc_some {α : Type} {F : Fence} {n : Nat} {P : Program} {w : World} {G : List α → α → Prop} {g : Operand} {ps : Array Tmp} {assign body : Code} {Q : Exit → Act → World → Prop} {a : Act}
    (hro : F.round = none) (h1 : 1 ≤ n) {gf : Nat} {lb : Array Value} (hg : a.eval g = .func (.func gf) #[] lb) (hF : F.fn gf) (eg : ∀ args w, (callFunc gf args).run P w = .ok (.enter gf args) w)
    {en : α → Array Value} {Kp : World → World → Prop} {xs : List α} {w0 : World} (hseq : YieldsSome G F (n - 1) P gf lb en Kp xs w0)
    (hKt : ∀ {A B C : World}, Kp A B → Kp B C → Kp A C) (hKb : ∀ (W : World) (l : Nat) (o o' : Obj), w.heap.size ≤ l → W.heap[l]? = some o → o.isCells = false → o.isWalk = false → Kp W (W.putObj l o'))
    (hb0 : Below w0.heap.size w0 w) (hps : ∀ x, (en x).size = ps.size)
    (I Ix : List α → World → Prop) (hI : OwnFrom w.heap.size I) (hIx : OwnFrom w.heap.size Ix) (h0 : I [] w) (Ax : α → Act → World → Prop) (hAx : ∀ x b, OwnFrom w.heap.size (fun (_ : Unit) W => Ax x b W))
    (hassign : ∀ (l : Nat) (pre : List α) (x : α) (W : World) (K : Act → World → Prop), I pre W → (∀ b W', KeepsFrom w.heap.size W W' → Kp W W' → I pre W' → Ax x b W' → K b W') →
      assign.wpIn (F.inRound l) (n - 1 - 1) P (Exit.then K (fun _ _ _ => False)) { tmps := (ps.zip (en x)).foldl (fun t (p, v) => t.setIfInBounds p v) a.tmps, defers := [] } W)
    (hbody : ∀ (l : Nat) (pre : List α) (x : α) (b : Act) (W : World), w.heap.size ≤ l → G pre x → I pre W → Ax x b W → body.wpIn (F.inRound l) (n - 1 - 1) P (fun e _ W' => (e = .normal ∧ KeepsFrom w.heap.size W W' ∧ Kp W W' ∧ I (pre ++ [x]) W') ∨ (e = .ret ∧ KeepsFrom w.heap.size W W' ∧ Ix (pre ++ [x]) W')) b W)
    (hdone : ∀ (D : Nat) (W : World), w.heap.size ≤ D → I xs W → W.heap[D]? = some (.deferred (some [])) → Q .normal { a with defers := { target := .collected D, args := #[] } :: a.defers } W)
    (hstop : ∀ (D : Nat) (pre : List α) (x : α) (W : World), w.heap.size ≤ D → G pre x → Ix (pre ++ [x]) W → W.heap[D]? = some (.deferred (some [])) → Code.ret.wpIn F n P Q { a with defers := { target := .collected D, args := #[] } :: a.defers } W) :
    (Code.rangeFunc g ps assign body).wpIn F n P Q a w := by
  refine wpIn_rangeFunc fun fn hfn => ?_
  rw [hro]
  let D := w.heap.size
  let rc : LoopState → Loop := fun st => { state := st, pending := none, fn, tmps := a.tmps, params := ps, assign, body, defers := D }
  let rx : Loop := { state := .done, pending := some .ret, fn, tmps := a.tmps, params := ps, assign, body, defers := D }
  let V := (w.alloc (.deferred (some []))).alloc (.loop (rc .ready))
  have hD : V.heap[D]? = some (.deferred (some [])) := (Below.heap_alloc _ _ _ (by simp [D])).trans (World.alloc_heap_new w _)
  have hL : V.heap[D + 1]? = some (.loop (rc .ready)) := by
    have h := World.alloc_heap_new (w.alloc (.deferred (some []))) (.loop (rc .ready)); rwa [World.size_alloc] at h
  have hbv : Below w0.heap.size w0 V := hb0.trans ((((Below.refl _ w).alloc (Nat.le_refl _) _).alloc (by simp) _).mono hb0.size)
  have hV : D + 2 = V.heap.size := by simp [V, D]
  refine ⟨D + 1, [{ target := .collected D, args := #[] }], V, { target := .fn (.func gf) lb, args := #[.func (.yield (D + 1)) #[] #[]] }, V, gf, #[.func (.yield (D + 1)) #[] #[]] ++ lb, V, run_enterLoop_outer _ _ _ _ _, ?_, ?_, ?_, fun _ => h1, ?_⟩
  · simp only [resolve, hg]; simp [go_sem]
  · intro f hf; simp [Target.leads] at hf; subst hf; exact hF
  · simp [invoke, go_sem, eg]
  have low : ∀ {A : World} {row : Option Nat}, (∀ r, row = some r → V.heap.size ≤ r ∧ ∃ o : Obj, A.heap[r]? = some o ∧ o.isWalk = true) → (∀ r, row = some r → D ≤ r ∧ ∃ o : Obj, A.heap[r]? = some o ∧ o.isCells = false) := fun hr r e => by
    obtain ⟨hB, o, ho, hw⟩ := hr r e
    exact ⟨by omega, o, ho, Obj.not_cells_of_walk hw⟩
  refine (hseq (D + 1) (fun pre W => I pre W ∧ W.heap[D + 1]? = some (.loop (rc .ready)) ∧ W.heap[D]? = some (.deferred (some []))) (fun pre W => Ix pre W ∧ W.heap[D + 1]? = some (.loop rx) ∧ W.heap[D]? = some (.deferred (some []))) V hbv ?_ ?_ ⟨hI.alloc _ (hI.alloc _ h0), hL, hD⟩).mono ?_
  · exact fun s A B row hs hg' hr => ⟨hI s A B row hs.1 hg' (low hr), (grownBy_keeps hg' (fun r e => (hr r e).2) hs.2.1 rfl).trans hs.2.1, (grownBy_keeps hg' (fun r e => (hr r e).2) hs.2.2 rfl).trans hs.2.2⟩
  · rintro pre x W hG ⟨hi, hl, hk⟩
    refine ⟨fn, _, assign, body, run_yield (P := P) (args := en x) hl (hps x), roundIn_of_wpIn hfn (hassign _ pre x W _ hi fun b U hku hpu hiu hau => ?_)⟩
    have hlU := hku.same _ _ (by omega) hl rfl
    have hkU := hku.same _ _ (Nat.le_refl _) hk rfl
    have hlt := hp_lt hlU
    refine ⟨_, run_beginRound hlU rfl, ?_⟩
    have hl2 : (U.putObj (D + 1) (.loop (rc .busy))).heap[D + 1]? = some (.loop (rc .busy)) := World.putObj_heap_same hlt
    have hk2 : (U.putObj (D + 1) (.loop (rc .busy))).heap[D]? = some (.deferred (some [])) := (World.putObj_heap_other (by omega)).trans hkU
    refine wpIn_mono (hbody (D + 1) pre x b _ (by omega) hG (hI.putObj _ hiu (by omega) hlU rfl) ((hAx x b).putObj (s := ()) _ hau (by omega) hlU rfl)) ?_
    rintro e c Z (⟨rfl, hkz, hpz, hiz⟩ | ⟨rfl, hkz, hiz⟩)
    case inr =>
      have hlz := hkz.same _ _ (by omega) hl2 rfl
      have hkk := hkz.same _ _ (Nat.le_refl _) hk2 rfl
      have hr := run_endRound (P := P) (some Code.ret) hlz
      exact ⟨_, _, hr, .inr ⟨rfl, hIx.putObj _ hiz (by omega) hlz rfl, World.putObj_heap_same (hp_lt hlz), (World.putObj_heap_other (by omega)).trans hkk⟩⟩
    have hlz := hkz.same _ _ (by omega) hl2 rfl
    have hkk := hkz.same _ _ (Nat.le_refl _) hk2 rfl
    have hr := run_endRound (P := P) none hlz
    refine ⟨_, _, hr, .inl ⟨rfl, ⟨hI.putObj _ hiz (by omega) hlz rfl, World.putObj_heap_same (hp_lt hlz), (World.putObj_heap_other (by omega)).trans hkk⟩, hKt hpu (hKt (hKt (hKb _ _ _ _ (by omega) hlU rfl rfl) hpz) (hKb _ _ _ _ (by omega) hlz rfl rfl))⟩⟩
  · rintro e W ⟨⟨v, rfl⟩, ⟨hi, hl, hk⟩ | ⟨pre, x, hG, hi, hl, hk⟩⟩
    · exact ⟨none, _, run_endLoop (P := P) hl (by simp [rc]), hdone _ _ (Nat.le_refl _) (hI.putObj _ hi (by omega) hl rfl) ((World.putObj_heap_other (by omega)).trans hk)⟩
    · exact ⟨some .ret, _, run_endLoop (P := P) hl (by simp [rx]), hstop _ _ _ _ (Nat.le_refl _) hG (hIx.putObj _ hi (by omega) hl rfl) ((World.putObj_heap_other (by omega)).trans hk)⟩

set_option maxRecDepth 100000 in
set_option maxHeartbeats 2000000 in
theorem back1H_some (n : Nat) (hn : 1 ≤ n) (l Bs n₀ b off len cap : Nat) (a : Option Addr) (rs : List NH) (hlen : len ≤ 8) (ha : 0 < len → a = some ⟨b, off, none⟩ ∧ b < n₀) (J Jx : List NH → World → Prop)
    (hY : ∀ pre x W, GoesBackH rs pre x → J pre W → YieldAt Fence.wide (n - 1) Try.prog l (encNH x) W fun e W' =>
      (e = .returned (.bool true) ∧ J (pre ++ [x]) W' ∧ KpB n₀ Bs W W') ∨ (e = .returned (.bool false) ∧ Jx (pre ++ [x]) W'))
    (W : World) (hBs : W.cell? ⟨Bs, 0, none⟩ = some (.slice a len cap)) (hc : BackAtH W b off len rs) (h0 : J [] W) :
    CallsIn Fence.wide n Try.prog 73 #[.func (.yield l) #[] #[], .pointer (some ⟨Bs, 0, none⟩)] W fun e W' => (∃ v, e = .returned v) ∧ (J rs W' ∨ ∃ pre x, GoesBackH rs pre x ∧ Jx (pre ++ [x]) W') := by
  refine callsIn_of_wp Try.func73 rfl trivial ?_ rfl
  simp only [Try.ntmps73, List.size_toArray, List.length_cons, List.length_nil, Nat.reduceAdd, Nat.reduceSub, Array.replicate_succ, Array.replicate_zero, List.push_toArray, List.append_toArray, List.nil_append, List.cons_append]
  gi_wp2
  gi_loopw [3] (fun i wr => ∃ (j : Nat) (m : Int), i = .int .i64 m ∧ j ≤ len ∧ (len : Int) - 1 - j ≤ m ∧ m ≤ (len : Int) - 1 - j ∧ J (rs.take j) wr ∧ KpB n₀ Bs W wr)
    (fun i _ => (intOf i + 1).toNat)
  case atStart => exact ⟨0, _, rfl, by omega, by omega, by omega, h0, ⟨Below.refl _ _, rfl⟩⟩
  case round =>
    obtain ⟨j, m, rfl, hj, hm1, hm2, hJs, hnx⟩ := hrel
    have hB0 := (World.cell?_of_block (w := W) (w' := wr) (a := ⟨Bs, 0, none⟩) hnx.2).trans hBs
    by_cases hlt : j < len
    · obtain ⟨rfl, hb⟩ := ha (by omega)
      obtain ⟨x, hx⟩ := get_of_lt (show j < rs.length by have := hc.1; omega)
      obtain ⟨e0, c0⟩ := hc.2 j x hx
      have hx1 := x.2.1
      have em : m = (x.1.i : Int) := by omega
      subst em
      have d0 := (hnx.1.cell (p := ⟨b, _, none⟩) hb).trans c0
      rw [← e0] at d0
      obtain ⟨fn, tmps, assign, body, hy, hR⟩ := hY _ x wr ⟨j, rfl, hx⟩ hJs
      unfold encNH at hy
      have HX := Lib.hid hx
      have HC := Lib.hid hc
      have hxl : x.1.i < len := by omega
      clear hx hc e0 c0 ha
      generalize hA : x.1.i = xi at *
      generalize hL : Value.slice x.1.a x.1.n x.1.c = xl at *
      clear hA hL
      gi_wp2
      refine hR.mono ?_
      rintro e W3 (⟨rfl, hJ3, hk3⟩ | ⟨rfl, hJx3⟩)
      · rw [← take_snoc HX.out] at hJ3
        have HJ := Lib.hid hJ3
        clear hJ3
        gi_wp2
        go_roundw
        case rel => exact ⟨j + 1, _, rfl, by omega, by omega, by omega, HJ.out, hnx.1.trans hk3.1, hk3.2.trans hnx.2⟩
        case measure => simp [intOf]
      · have HJ := Lib.hid hJx3
        clear hJx3
        gi_wp2
        refine bodyPost_ret (results_none rfl _ _ _) rfl ?_
        exact ⟨⟨_, rfl⟩, .inr ⟨_, x, ⟨j, rfl, HX.out⟩, HJ.out⟩⟩
    · clear ha
      have hneg : m < 0 := by omega
      have ht : rs.take j = rs := List.take_of_length_le (by have := hc.1; omega)
      rw [ht] at hJs
      have HJ := Lib.hid hJs
      clear hJs ht
      gi_wp2
      go_end0
      exact ⟨⟨_, rfl⟩, .inl HJ.out⟩

theorem backH_some (n : Nat) (hn : 1 ≤ n) (Bs n₀ b off len cap : Nat) (a : Option Addr) (rs : List NH) (w : World) (hlen : len ≤ 8) (ha : 0 < len → a = some ⟨b, off, none⟩ ∧ b < n₀) (hBn : Bs < w.heap.size) (hn₀ : n₀ ≤ w.heap.size)
    (hBs : w.cell? ⟨Bs, 0, none⟩ = some (.slice a len cap)) (hc : BackAtH w b off len rs) :
    YieldsSome (GoesBackH rs) Fence.wide n Try.prog 73 #[.pointer (some ⟨Bs, 0, none⟩)] encNH (KpB n₀ Bs) rs w := fun l J Jx W hW _ hY h0 => by
  refine back1H_some n hn l Bs n₀ b off len cap a rs hlen ha J Jx hY W ((hW.cell (p := ⟨Bs, 0, none⟩) (by show Bs < _; omega)).trans hBs) ⟨hc.1, fun j x hx => ?_⟩ h0
  have hl : j < len := by have := (List.getElem?_eq_some_iff.1 hx).1; have := hc.1; omega
  have hb := (ha (by omega)).2
  obtain ⟨e0, c0⟩ := hc.2 j x hx
  exact ⟨e0, (hW.cell (p := ⟨b, _, none⟩) (by show b < _; omega)).trans c0⟩

end Go.Proofs.Ytikblaebfpdngaa

/- Who of story: contract. -/
set_option linter.unusedVariables false
set_option linter.unusedSimpArgs false
namespace Tinker
/-- Who touched a line last: the error, the number, whether there is one. -/
def whC (ps : List L) (h : List (List E)) (i : Int) : Int := if vst ps h = 0 then (if btw i 0 ((ps.length : Int) - 1) then 0 else 4) else vst ps h
def whO (ps : List L) (h : List (List E)) (i : Int) : Option Nat := if whC ps h i = 0 then whoK h i h.length else none
def whN (ps : List L) (h : List (List E)) (i : Int) : Int := match whO ps h i with | some n => (n : Int) | none => 0
def whB (ps : List L) (h : List (List E)) (i : Int) : Bool := (whO ps h i).isSome
theorem wh_bad {ps : List L} {h : List (List E)} {i : Int} (hc : whC ps h i ≠ 0) : whN ps h i = 0 ∧ whB ps h i = false := by
  have h1 : whO ps h i = none := by unfold whO; rw [if_neg hc]
  exact ⟨by unfold whN; rw [h1], by unfold whB; rw [h1]; rfl⟩
theorem wh_ok {ps : List L} {h : List (List E)} {i : Int} (hv : vst ps h = 0) (hb : btw i 0 ((ps.length : Int) - 1) = true) : whC ps h i = 0 ∧ whO ps h i = whoK h i h.length := by
  have h1 : whC ps h i = 0 := by unfold whC; rw [if_pos hv, if_pos hb]
  exact ⟨h1, by unfold whO; rw [if_pos h1]⟩
end Tinker
namespace Go.Proofs.Ytikblaebfpdngaa
open Go.RowKit Go.Shelf Tinker
attribute [local go_sem] Oper.semAt_some

theorem load_int7 (w : World) (a : Addr) (n : Int) (h : w.cell? a = some (.int .i64 n)) : (loadVar 3 a).run Try.prog w = .ok (.int .i64 n) w := by
  have hu := Try.underlying3
  unfold loadVar
  go_simp
theorem load_bool7 (w : World) (a : Addr) (n : Bool) (h : w.cell? a = some (.bool n)) : (loadVar 4 a).run Try.prog w = .ok (.bool n) w := by
  have hu := Try.underlying4
  unfold loadVar
  go_simp
theorem load_err7 (w : World) (a : Addr) (n : Int) (h : w.cell? a = some (.int .i64 n)) : (loadVar 26 a).run Try.prog w = .ok (.int .i64 n) w := by
  have hu := Try.underlying26
  unfold loadVar
  go_simp
theorem results_who {fn : Func} {p q r : Tmp} (h : fn.results = #[.cell p 3, .cell q 4, .cell r 26]) (tmps : Array Value) (w : World) (ap aq ar : Addr) (x z : Int) (y : Bool)
    (hp : tmps.getD p undef = .pointer (some ap)) (hq : tmps.getD q undef = .pointer (some aq)) (hr : tmps.getD r undef = .pointer (some ar))
    (lp : w.cell? ap = some (.int .i64 x)) (lq : w.cell? aq = some (.bool y)) (lr : w.cell? ar = some (.int .i64 z)) : (results fn tmps).run Try.prog w = .ok (.tuple #[.int .i64 x, .bool y, .int .i64 z]) w := by
  have h1 := load_int7 w ap x lp
  have h2 := load_bool7 w aq y lq
  have h3 := load_err7 w ar z lr
  have hp' : tmps[p]?.getD undef = .pointer (some ap) := by simpa using hp
  have hq' : tmps[q]?.getD undef = .pointer (some aq) := by simpa using hq
  have hr' : tmps[r]?.getD undef = .pointer (some ar) := by simpa using hr
  simp only [results, h]
  simp [Sem.run_bind, Result.andThen, hp', hq', hr', asAddr, h1, h2, h3]

/-- The line and the three results, in memory. -/
structure WhI (i : Int) (x : Int) (y : Bool) (z : Int) (w W : World) : Prop where
  b5 : W.heap[w.heap.size]? = some (.cells #[.int .i64 i] 3 (0, 0))
  b6 : W.heap[w.heap.size + 1]? = some (.cells #[.int .i64 x] 3 (0, 0))
  b7 : W.heap[w.heap.size + 1 + 1]? = some (.cells #[.bool y] 4 (0, 0))
  b8 : W.heap[w.heap.size + 1 + 1 + 1]? = some (.cells #[.int .i64 z] 26 (0, 0))
  below : Below w.heap.size w W
theorem WhI.low {i x z : Int} {y : Bool} {w W W' : World} (h : WhI i x y z w W) (hb : Below W.heap.size W W') : WhI i x y z w W' :=
  ⟨hp_below h.b5 hb (hp_lt h.b5), hp_below h.b6 hb (hp_lt h.b6), hp_below h.b7 hb (hp_lt h.b7), hp_below h.b8 hb (hp_lt h.b8), h.below.trans (hb.mono h.below.size)⟩
theorem whI_new (i : Int) (w : World) : WhI i 0 false 0 w ((((w.alloc (.cells #[.int .i64 i] 3)).alloc (.cells #[.int .i64 0] 3)).alloc (.cells #[.bool false] 4)).alloc (.cells #[.int .i64 0] 26)) := by
  have f1 := heap_new w (.cells #[.int .i64 i] 3)
  have s1 : (w.alloc (.cells #[.int .i64 i] 3)).heap.size = w.heap.size + 1 := by simp
  have b1 := (Below.refl w.heap.size w).alloc (Nat.le_refl _) (.cells #[.int .i64 i] 3)
  generalize w.alloc (.cells #[.int .i64 i] 3) = v1 at *
  have f2 := heap_new v1 (.cells #[.int .i64 0] 3)
  have s2 : (v1.alloc (.cells #[.int .i64 0] 3)).heap.size = w.heap.size + 1 + 1 := by simp [s1]
  have b2 := b1.alloc b1.size (.cells #[.int .i64 0] 3)
  rw [s1] at f2
  replace f1 := hp_alloc (o' := .cells #[.int .i64 0] 3) f1
  generalize v1.alloc (.cells #[.int .i64 0] 3) = v2 at *
  have f3 := heap_new v2 (.cells #[.bool false] 4)
  have s3 : (v2.alloc (.cells #[.bool false] 4)).heap.size = w.heap.size + 1 + 1 + 1 := by simp [s2]
  have b3 := b2.alloc b2.size (.cells #[.bool false] 4)
  rw [s2] at f3
  replace f1 := hp_alloc (o' := .cells #[.bool false] 4) f1
  replace f2 := hp_alloc (o' := .cells #[.bool false] 4) f2
  generalize v2.alloc (.cells #[.bool false] 4) = v3 at *
  have f4 := heap_new v3 (.cells #[.int .i64 0] 26)
  have b4 := b3.alloc b3.size (.cells #[.int .i64 0] 26)
  rw [s3] at f4
  exact ⟨hp_alloc f1, hp_alloc f2, hp_alloc f3, f4, b4⟩
theorem WhI.put {i x z : Int} {y : Bool} {w W : World} (h : WhI i x y z w W) (x' z' : Int) (y' : Bool) :
    WhI i x' y' z' w (((W.setCell ⟨w.heap.size + 1, 0, none⟩ (.int .i64 x')).setCell ⟨w.heap.size + 1 + 1, 0, none⟩ (.bool y')).setCell ⟨w.heap.size + 1 + 1 + 1, 0, none⟩ (.int .i64 z')) := by
  have g5 := hp_set h.b5 (p := ⟨w.heap.size + 1, 0, none⟩) (by show w.heap.size ≠ w.heap.size + 1; omega) (.int .i64 x')
  have g6 := hp_put h.b6 0 (.int .i64 x')
  have g7 := hp_set h.b7 (p := ⟨w.heap.size + 1, 0, none⟩) (by show w.heap.size + 1 + 1 ≠ w.heap.size + 1; omega) (.int .i64 x')
  have g8 := hp_set h.b8 (p := ⟨w.heap.size + 1, 0, none⟩) (by show w.heap.size + 1 + 1 + 1 ≠ w.heap.size + 1; omega) (.int .i64 x')
  have gb := h.below.setCell (p := ⟨w.heap.size + 1, 0, none⟩) (by show w.heap.size ≤ w.heap.size + 1; omega) (.int .i64 x')
  generalize W.setCell ⟨w.heap.size + 1, 0, none⟩ (.int .i64 x') = V at *
  have k5 := hp_set g5 (p := ⟨w.heap.size + 1 + 1, 0, none⟩) (by show w.heap.size ≠ w.heap.size + 1 + 1; omega) (.bool y')
  have k6 := hp_set g6 (p := ⟨w.heap.size + 1 + 1, 0, none⟩) (by show w.heap.size + 1 ≠ w.heap.size + 1 + 1; omega) (.bool y')
  have k7 := hp_put g7 0 (.bool y')
  have k8 := hp_set g8 (p := ⟨w.heap.size + 1 + 1, 0, none⟩) (by show w.heap.size + 1 + 1 + 1 ≠ w.heap.size + 1 + 1; omega) (.bool y')
  have kb := gb.setCell (p := ⟨w.heap.size + 1 + 1, 0, none⟩) (by show w.heap.size ≤ w.heap.size + 1 + 1; omega) (.bool y')
  generalize V.setCell ⟨w.heap.size + 1 + 1, 0, none⟩ (.bool y') = U at *
  exact ⟨hp_set k5 (by show w.heap.size ≠ w.heap.size + 1 + 1 + 1; omega) _, hp_set k6 (by show w.heap.size + 1 ≠ w.heap.size + 1 + 1 + 1; omega) _, hp_set k7 (by show w.heap.size + 1 + 1 ≠ w.heap.size + 1 + 1 + 1; omega) _, hp_put k8 0 _, kb.setCell (p := ⟨w.heap.size + 1 + 1 + 1, 0, none⟩) (by show w.heap.size ≤ w.heap.size + 1 + 1 + 1; omega) _⟩

theorem WhI.own {x z : Int} {y : Bool} {i : Int} {w X Y : World} {row : Option Nat} {B : Nat} (hs : WhI i x y z w X) (hg : X.grownBy Y row) (hr : ∀ r, row = some r → B ≤ r ∧ ∃ o : Obj, X.heap[r]? = some o ∧ o.isCells = false) (hB : w.heap.size ≤ B) : WhI i x y z w Y := by
  have hr2 : ∀ r, row = some r → ∃ o : Obj, X.heap[r]? = some o ∧ o.isCells = false := fun r e => (hr r e).2
  have up : ∀ {i : Nat} {cs : Array Value} {t : TypeId}, X.heap[i]? = some (.cells cs t (0, 0)) → Y.heap[i]? = some (.cells cs t (0, 0)) := fun {i cs t} hi => (own_heap i (fun _ : Unit => .cells cs t (0, 0)) (fun _ => rfl)) () X Y row hi hg hr2
  exact ⟨up hs.b5, up hs.b6, up hs.b7, up hs.b8, hs.below.grown hg hs.below.size (fun k e => Nat.le_trans hB (hr k e).1)⟩
theorem whI_ownI {x z : Int} {y : Bool} {i : Int} {w : World} {K B : Nat} {cs : Array Value} {t : TypeId} (C : List NH → Prop) (hB : w.heap.size ≤ B) : OwnFrom B (fun (pre : List NH) W => WhI i x y z w W ∧ W.heap[K]? = some (.cells cs t (0, 0)) ∧ C pre) := by
  intro s X Y row hs hg hr
  exact ⟨hs.1.own hg hr hB, (own_heap K (fun _ : Unit => .cells cs t (0, 0)) (fun _ => rfl)) () X Y row hs.2.1 hg (fun r e => (hr r e).2), hs.2.2⟩
theorem whI_ownX {i : Int} {w : World} {B : Nat} (D : Nat → Prop) (hB : w.heap.size ≤ B) : OwnFrom B (fun (pre : List NH) W => ∃ n : Nat, D n ∧ WhI i (n : Int) true 0 w W) := by
  rintro s X Y row ⟨n, hn, hs⟩ hg hr
  exact ⟨n, hn, hs.own hg hr hB⟩
theorem whoK_no {h : List (List E)} {i : Int} {k : Nat} (e : (rpA h k).any (fun a => a.at_ == i) = false) : whoK h i (k + 1) = whoK h i k := by
  rw [whoK, e]; rfl
theorem whoK_yes {h : List (List E)} {i : Int} {k : Nat} (e : (rpA h k).any (fun a => a.at_ == i) = true) : whoK h i (k + 1) = some k := by
  rw [whoK, e]; rfl
theorem keepsFrom_below {B : Nat} {W W' : World} (h : Below W.heap.size W W') : KeepsFrom B W W' := ⟨h.size, fun k o _ hk _ => (h.block k (hp_lt hk)).trans hk⟩
theorem leave_who {i x z : Int} {y : Bool} {w W : World} {D : Nat} {fn : Func} {o' : Obj} (h : WhI i x y z w W) (hD : W.heap[D]? = some (.deferred (some []))) {p q r : Tmp} (hf : fn.results = #[.cell p 3, .cell q 4, .cell r 26]) (tmps : Array Value)
    (hp : tmps.getD p undef = .pointer (some ⟨w.heap.size + 1, 0, none⟩)) (hq : tmps.getD q undef = .pointer (some ⟨w.heap.size + 1 + 1, 0, none⟩)) (hr : tmps.getD r undef = .pointer (some ⟨w.heap.size + 1 + 1 + 1, 0, none⟩)) :
    (results fn tmps).run Try.prog (W.putObj D o') = .ok (.tuple #[.int .i64 x, .bool y, .int .i64 z]) (W.putObj D o') :=
  results_who hf tmps _ _ _ _ _ _ _ hp hq hr (cell_putObj hD rfl (hp_cell h.b6 (j := 0) rfl)) (cell_putObj hD rfl (hp_cell h.b7 (j := 0) rfl)) (cell_putObj hD rfl (hp_cell h.b8 (j := 0) rfl))

set_option maxRecDepth 100000 in
set_option maxHeartbeats 4000000 in
theorem stWho_any (a g : Option Addr) (ca cg : Nat) (ps : List L) (h : List (List E)) (i : Int) (w : World) (hp : LinesAt w a ps) (hh : RowsEAt w g h) (hpl : ps.length ≤ 1000) (hhl : h.length ≤ 1000) (hm : ∀ x ∈ h, x.length ≤ 1000) :
    Calls Try.prog 29 #[.slice a ps.length ca, .slice g h.length cg, .int .i64 i] w fun e w' => e = .returned (.tuple #[.int .i64 (whN ps h i), .bool (whB ps h i), .int .i64 (whC ps h i)]) ∧ Below w.heap.size w w' := by
  have HI0 := Lib.hid (whI_new i w)
  obtain ⟨w0, hw0⟩ : ∃ w0, w0 = (((w.alloc (.cells #[.int .i64 i] 3)).alloc (.cells #[.int .i64 0] 3)).alloc (.cells #[.bool false] 4)).alloc (.cells #[.int .i64 0] 26) := ⟨_, rfl⟩
  rw [← hw0] at HI0
  have HW0 := Lib.hid hw0
  have HV := Lib.hid (fun w h1 h2 => stVal_any a g ca cg ps h w h1 h2 hpl hhl hm)
  have HT := Lib.hid (fun w => isBetween_any i 0 ((ps.length : Int) - 1) w)
  have HP := Lib.hid hp
  have HH := Lib.hid hh
  clear hw0
  by_cases hv : vst ps h = 0
  · cases hb : btw i 0 ((ps.length : Int) - 1)
    · have hc : whC ps h i = 4 := by unfold whC; rw [if_pos hv, hb]; rfl
      obtain ⟨e1, e2⟩ := wh_bad (ps := ps) (h := h) (i := i) (by rw [hc]; decide)
      rw [e1, e2, hc]
      rw [hv] at HV
      rw [hb] at HT
      clear hv hb hc e1 e2 hp hh hm
      go_enter Try.func29, Try.ntmps29
      go_upto_region 1 with fail
      rw [← HW0.out]
      go_wp2_with fail
      refine (HV.out _ (HP.out.below HI0.out.below (Nat.le_refl _)) (HH.out.below HI0.out.below (Nat.le_refl _))).mono ?_
      rintro e w1 ⟨rfl, hB⟩
      have HI := Lib.hid (HI0.out.low hB)
      clear hB
      have y5 := hp_cell HI.out.b5 (j := 0) rfl
      go_wp2_with fail
      refine (HT.out _).mono ?_
      rintro e w2 ⟨rfl, rfl⟩
      clear y5
      have HF := Lib.hid (HI.out.put 0 4 false)
      have y5 := hp_cell HI.out.b5 (j := 0) rfl
      have y6 := hp_cell HI.out.b6 (j := 0) rfl
      have y7 := hp_cell HI.out.b7 (j := 0) rfl
      have y8 := hp_cell HI.out.b8 (j := 0) rfl
      have z6 := hp_free HI.out.b6 0
      have z7 := hp_free HI.out.b7 0
      have z8 := hp_free HI.out.b8 0
      go_wp2_with fail
      try simp only [Exit.inBlock, Exit.then]
      refine bodyPost_ret (results_who rfl _ _ _ _ _ _ _ _ rfl rfl rfl (hp_cell HF.out.b6 (j := 0) rfl) (hp_cell HF.out.b7 (j := 0) rfl) (hp_cell HF.out.b8 (j := 0) rfl)) rfl ?_
      exact ⟨rfl, HF.out.below⟩
    · obtain ⟨hc, ho⟩ := wh_ok hv hb
      have h8 := (vst_ok hv).2.1
      have hr : ∀ n : Nat, whoK h i h.length = some n → whN ps h i = (n : Int) ∧ whB ps h i = true := fun n e => by
        rw [e] at ho
        exact ⟨by unfold whN; rw [ho], by unfold whB; rw [ho]; rfl⟩
      have hr0 : whoK h i h.length = none → whN ps h i = 0 ∧ whB ps h i = false := fun e => by
        rw [e] at ho
        exact ⟨by unfold whN; rw [ho], by unfold whB; rw [ho]; rfl⟩
      have HR := Lib.hid hr
      have HR0 := Lib.hid hr0
      have HTC := Lib.hid (fun a' c' (x : List E) (hx : x ∈ h) w hz => touches_any a' c' x i w hz (hm x hx))
      rw [hc]
      rw [hv] at HV
      rw [hb] at HT
      clear hv hb hc ho hr hr0 hp hh hm
      refine (callsIn_wide (n := 5)).1 ?_
      refine callsIn_of_wp_marks Try.func29 rfl trivial ?_ rfl
      simp only [Try.ntmps29, List.size_toArray, List.length_cons, List.length_nil, Nat.reduceAdd, Nat.reduceSub, Array.replicate_succ, Array.replicate_zero, List.push_toArray, List.append_toArray, List.nil_append, List.cons_append]
      gi_wp2_with fail
      refine ⟨trivial, ?_⟩
      gi_at_call 16
      rw [← HW0.out]
      refine (callsIn_wide.2 (HV.out _ (HP.out.below HI0.out.below (Nat.le_refl _)) (HH.out.below HI0.out.below (Nat.le_refl _)))).mono ?_
      rintro e w1 ⟨rfl, hB⟩
      have HI := Lib.hid (HI0.out.low hB)
      clear hB HI0 HW0
      have y5 := hp_cell HI.out.b5 (j := 0) rfl
      gi_wp2_with fail
      refine ⟨trivial, ?_⟩
      gi_at_call 40
      refine (callsIn_wide.2 (HT.out _)).mono ?_
      rintro e w2 ⟨rfl, rfl⟩
      gi_wp2_with fail
      refine ⟨trivial, ?_⟩
      gi_at_call 55
      refine (callsIn_wide.2 (backwardH_any _ _ _ _)).mono ?_
      rintro e w4 ⟨rfl, hw4⟩
      have HI4 := Lib.hid (show WhI i 0 false 0 w w4 from by rw [← hw4]; exact HI.out.low ((Below.refl _ _).alloc (Nat.le_refl _) _))
      obtain ⟨K, hK⟩ : ∃ K, K = w1.heap.size := ⟨_, rfl⟩
      have hKB : w4.heap[K]? = some (.cells #[.slice g h.length cg] 23 (0, 0)) := by rw [← hw4, hK]; exact heap_new _ _
      rw [← hK]
      have hKl := hp_lt hKB
      have hKw : w.heap.size ≤ K := by rw [hK]; exact HI.out.below.size
      clear hw4 y5 HI hK HV HT
      have hxa : ∃ (pb off : Nat) (rs : List NH), (0 < h.length → g = some ⟨pb, off, none⟩ ∧ pb < w.heap.size) ∧ BackAtH w4 pb off h.length rs ∧ ∀ (j : Nat) (x : NH), rs[j]? = some x → ∃ y, h[h.length - 1 - j]? = some y ∧ x.1.n = y.length ∧ EditsAt w x.1.a y := by
        rcases HH.out with hn | ⟨pb, off, q1, q2, q3⟩
        · exact ⟨0, 0, [], fun h9 => by rw [hn] at h9; simp at h9, ⟨by rw [hn]; rfl, fun j x hx => by simp at hx⟩, fun j x hx => by simp at hx⟩
        · obtain ⟨rs, r1, r2⟩ := back_hist h8 q3
          refine ⟨pb, off, rs, fun _ => ⟨q1, q2⟩, ⟨r1.1, fun j x hx => ⟨(r1.2 j x hx).1, ?_⟩⟩, r2⟩
          exact (HI4.out.below.cell (p := ⟨pb, _, none⟩) q2).trans (r1.2 j x hx).2
      obtain ⟨pb, off, rs, hx1, hx2, hx3⟩ := hxa
      have HSEQ := Lib.hid (backH_some 4 (by omega) K w.heap.size pb off h.length cg g rs w4 h8 hx1 hKl HI4.out.below.size (hp_cell hKB (by rfl)) hx2)
      have HRS := Lib.hid (fun (j : Nat) (x : NH) hx => (hx2.2 j x hx).1)
      have HLR := Lib.hid hx2.1
      have HX3 := Lib.hid hx3
      clear hx1 hx2 hx3
      have hP0 : w.heap.size ≤ w4.heap.size := HI4.out.below.size
      have hs8 := hp_lt HI4.out.b8
      gi_wp2_with fail
      refine rangeFunc_some (G := GoesBackH rs) rfl (by omega) (gf := 73) (lb := #[.pointer (some ⟨K, 0, none⟩)]) rfl trivial (enters_of Try.func73 (by kernel_rfl) rfl) HSEQ.out ?kt ?kb (Below.refl _ _) (fun _ => rfl)
        (fun pre W => WhI i 0 false 0 w W ∧ W.heap[K]? = some (.cells #[.slice g h.length cg] 23 (0, 0)) ∧ whoK h i (h.length - pre.length) = whoK h i h.length)
        (fun pre W => ∃ n : Nat, whoK h i h.length = some n ∧ WhI i (n : Int) true 0 w W)
        (whI_ownI _ hP0) (whI_ownX _ hP0) ⟨HI4.out, hKB, rfl⟩
        (fun x bb _ => bb = { tmps := #[.slice a ps.length ca, .slice g h.length cg, .int .i64 i, undef, undef, .pointer (some ⟨w.heap.size, 0, none⟩), .pointer (some ⟨w.heap.size + 1, 0, none⟩), .pointer (some ⟨w.heap.size + 1 + 1, 0, none⟩), .pointer (some ⟨w.heap.size + 1 + 1 + 1, 0, none⟩), .int .i64 0, .int .i64 (x.1.i : Int), .slice x.1.a x.1.n x.1.c, .slice a ps.length ca, .slice g h.length cg, .int .i64 0, .int .i64 0, .bool false, undef, .int .i64 i, .slice a ps.length ca, .int .i64 (ps.length : Int), .int .i64 ((ps.length : Int) - 1), .bool true, .bool false, .slice g h.length cg, .func (.func 73) #[] #[.pointer (some ⟨K, 0, none⟩)], .int .i64 (x.1.i : Int), .slice x.1.a x.1.n x.1.c, undef, undef, undef, undef], defers := [] }) (fun _ _ => fun _ _ _ _ hs _ _ => hs)
        ?assign ?body ?done ?stop
      case kt => exact fun h k => ⟨h.1.trans k.1, k.2.trans h.2⟩
      case kb =>
        intro W l o o' h1 h2 h3 h4
        refine ⟨belowK_b (w := w4) (by omega) W l o o' h1 h2 h3 h4, ?_⟩
        exact (grownBy_putObj' W l o').block K (by have := hp_lt h2; omega) (by intro e; cases e; omega)
      case assign =>
        intro l pre x W K' hI hK
        unfold encNH
        gi_wp2
        exact hK _ _ ((KeepsOthers.refl _).from _) ⟨Below.refl _ _, rfl⟩ hI rfl
      case body =>
        rintro l pre x bb W hl ⟨j, hj1, hj2⟩ ⟨hI, hKW, hC⟩ rfl
        have hj : j < rs.length := (List.getElem?_eq_some_iff.1 hj2).1
        have hpj : pre.length = j := by rw [hj1, List.length_take]; omega
        have e1 := HRS.out j x hj2
        have hrl := HLR.out
        obtain ⟨y, hy, e2, hye⟩ := HX3.out j x hj2
        obtain ⟨⟨xi, xa, xn, xc⟩, hx8, hxt⟩ := x
        simp only at e1 e2 hye ⊢
        subst e2
        have hn : h.length - (pre.length + 1) = xi := by rw [hpj]; omega
        rw [show h.length - pre.length = xi + 1 by omega] at hC
        rw [show h.length - 1 - j = xi by omega] at hy
        have hra := rpA_at hy
        have HI := Lib.hid hI
        have HC := Lib.hid hC
        have HN := Lib.hid hn
        have HKW := Lib.hid hKW
        have HQ := Lib.hid (HTC.out xa xc y (mem_of_get hy) W (hye.below hI.below (Nat.le_refl _)))
        have y5 := hp_cell hI.b5 (j := 0) rfl
        obtain ⟨V, hV⟩ : ∃ V, y.any (fun a => a.at_ == i) = V := ⟨_, rfl⟩
        have HVR := Lib.hid (show (rpA h xi).any (fun a => a.at_ == i) = V by rw [hra]; exact hV)
        rw [hV] at HQ
        clear hj hj1 hj2 hpj e1 hrl hI hC hn hKW hy hye hra hV
        gi_wp2_with fail
        refine ⟨trivial, ?_⟩
        gi_at_call 59
        refine (CallsIn.inRound l (callsIn_wide.2 HQ.out)).mono ?_
        rintro e w5 ⟨rfl, hB⟩
        have HI5 := Lib.hid (HI.out.low hB)
        have HB5 := Lib.hid hB
        clear hB y5
        cases V
        · gi_wp2_with fail
          refine ⟨keepsFrom_below HB5.out, ⟨HB5.out.mono HI.out.below.size, HB5.out.block K (hp_lt HKW.out)⟩, HI5.out, hp_below HKW.out HB5.out (hp_lt HKW.out), ?_⟩
          rw [HN.out, ← whoK_no HVR.out]
          exact HC.out
        · have HF := Lib.hid (HI5.out.put (xi : Int) 0 true)
          have hs5 := HI5.out.below.size
          have y5 := hp_cell HI5.out.b5 (j := 0) rfl
          have y6 := hp_cell HI5.out.b6 (j := 0) rfl
          have y7 := hp_cell HI5.out.b7 (j := 0) rfl
          have y8 := hp_cell HI5.out.b8 (j := 0) rfl
          have z6 := hp_free HI5.out.b6 0
          have z7 := hp_free HI5.out.b7 0
          have z8 := hp_free HI5.out.b8 0
          gi_wp2_with fail
          refine ⟨⟨?_, fun k o hk ho _ => ?_⟩, xi, ?_, HF.out⟩
          · simp only [World.setCell, Array.size_modify]; exact HB5.out.size
          · exact hp_set (hp_set (hp_set (hp_below ho HB5.out (hp_lt ho)) (by show k ≠ w.heap.size + 1; omega) _) (by show k ≠ w.heap.size + 1 + 1; omega) _) (by show k ≠ w.heap.size + 1 + 1 + 1; omega) _
          · rw [← HC.out]; exact whoK_yes HVR.out
      case done =>
        rintro D W hD ⟨hI, _, hC⟩ hK
        rw [HLR.out, Nat.sub_self] at hC
        obtain ⟨r1, r2⟩ := HR0.out (by rw [← hC]; rfl)
        have HF := Lib.hid (hI.put 0 0 false)
        have HKD := Lib.hid (hp_set (hp_set (hp_set hK (p := ⟨w.heap.size + 1, 0, none⟩) (by show D ≠ w.heap.size + 1; omega) (.int .i64 0)) (p := ⟨w.heap.size + 1 + 1, 0, none⟩) (by show D ≠ w.heap.size + 1 + 1; omega) (.bool false)) (p := ⟨w.heap.size + 1 + 1 + 1, 0, none⟩) (by show D ≠ w.heap.size + 1 + 1 + 1; omega) (.int .i64 0))
        have y5 := hp_cell hI.b5 (j := 0) rfl
        have y6 := hp_cell hI.b6 (j := 0) rfl
        have y7 := hp_cell hI.b7 (j := 0) rfl
        have y8 := hp_cell hI.b8 (j := 0) rfl
        have z6 := hp_free hI.b6 0
        have z7 := hp_free hI.b7 0
        have z8 := hp_free hI.b8 0
        have R1 := Lib.hid r1
        have R2 := Lib.hid r2
        clear hC r1 r2 hI hK HSEQ
        gi_wp2_with fail
        refine ⟨by simp, .inl ⟨_, _, rfl, run_takeDeferred HKD.out, ?_⟩⟩
        exact ⟨_, leave_who HF.out HKD.out (by rfl) _ (by rfl) (by rfl) (by rfl), by rw [R1.out, R2.out], HF.out.below.trans (belowK_b (w := w) (Nat.le_refl _) _ D _ _ (by omega) HKD.out rfl rfl)⟩
      case stop =>
        rintro D pre x W hD _ ⟨n, hn, hI⟩ hK
        obtain ⟨r1, r2⟩ := HR.out n hn
        have HF := Lib.hid hI
        have HKD := Lib.hid hK
        have R1 := Lib.hid r1
        have R2 := Lib.hid r2
        clear hn r1 r2 hI hK HSEQ
        gi_wp2_with fail
        refine ⟨by simp, .inl ⟨_, _, rfl, run_takeDeferred HKD.out, ?_⟩⟩
        exact ⟨_, leave_who HF.out HKD.out (by rfl) _ (by rfl) (by rfl) (by rfl), by rw [R1.out, R2.out], HF.out.below.trans (belowK_b (w := w) (Nat.le_refl _) _ D _ _ (by omega) HKD.out rfl rfl)⟩
  · have hc : whC ps h i = vst ps h := by unfold whC; rw [if_neg hv]
    obtain ⟨e1, e2⟩ := wh_bad (ps := ps) (h := h) (i := i) (by rw [hc]; exact hv)
    have hz1 : (vst ps h != 0) = true := by simpa using hv
    rw [e1, e2, hc]
    clear hv hc e1 e2 hp hh hm
    generalize vst ps h = c at *
    go_enter Try.func29, Try.ntmps29
    go_upto_region 1 with fail
    rw [← HW0.out]
    go_wp2_with fail
    refine (HV.out _ (HP.out.below HI0.out.below (Nat.le_refl _)) (HH.out.below HI0.out.below (Nat.le_refl _))).mono ?_
    rintro e w1 ⟨rfl, hB⟩
    have HI := Lib.hid (HI0.out.low hB)
    clear hB
    have HF := Lib.hid (HI.out.put 0 c false)
    have y5 := hp_cell HI.out.b5 (j := 0) rfl
    have y6 := hp_cell HI.out.b6 (j := 0) rfl
    have y7 := hp_cell HI.out.b7 (j := 0) rfl
    have y8 := hp_cell HI.out.b8 (j := 0) rfl
    have z6 := hp_free HI.out.b6 0
    have z7 := hp_free HI.out.b7 0
    have z8 := hp_free HI.out.b8 0
    go_wp2_with fail
    try simp only [Exit.inBlock, Exit.then]
    refine bodyPost_ret (results_who rfl _ _ _ _ _ _ _ _ rfl rfl rfl (hp_cell HF.out.b6 (j := 0) rfl) (hp_cell HF.out.b7 (j := 0) rfl) (hp_cell HF.out.b8 (j := 0) rfl)) rfl ?_
    exact ⟨rfl, HF.out.below⟩

end Go.Proofs.Ytikblaebfpdngaa

/- Who of the document (tinkerref07): contract. -/
set_option linter.unusedVariables false
set_option linter.unusedSimpArgs false
namespace Go.Proofs.Ytikblaebfpdngaa
open Go.RowKit Tinker

/-- An edit at a line. -/
def eAt (i : Int) : E := ⟨i, ⟨0, 0, 0, 0⟩⟩
theorem edits_at (i : Int) (w : World) : EditsAt (w.alloc (.cells #[.int .i64 i, .int .i64 0, .int .i64 0, .int .i64 0, .int .i64 0] 50)) (some ⟨w.heap.size, 0, none⟩) [eAt i] := by
  refine .inr ⟨w.heap.size, 0, rfl, by simp, fun j l hj => ?_⟩
  have hn := heap_new w (.cells #[.int .i64 i, .int .i64 0, .int .i64 0, .int .i64 0, .int .i64 0] 50)
  obtain ⟨rfl, rfl⟩ : j = 0 ∧ l = eAt i := by
    cases j with
    | zero => simp at hj; exact ⟨rfl, hj.symm⟩
    | succ j => simp at hj
  exact ⟨hp_cell hn (j := 0) rfl, hp_cell hn (j := 1) rfl, hp_cell hn (j := 2) rfl, hp_cell hn (j := 3) rfl, hp_cell hn (j := 4) rfl⟩
theorem touH_at (xs : List E) (i : Int) : touH xs [eAt i] = xs.any (fun a => a.at_ == i) := by
  unfold touH
  refine congrArg (fun f : E → Bool => xs.any f) (funext fun x => ?_)
  simp [eAt]

set_option maxRecDepth 100000 in
set_option maxHeartbeats 2000000 in
theorem rWho_any (a g : Option Addr) (ca cg : Nat) (ps : List L) (h : List (List E)) (i : Int) (w : World) (hp : LinesAt w a ps) (hh : RowsEAt w g h) (hpl : ps.length ≤ 1000) (hhl : h.length ≤ 1000) (hm : ∀ x ∈ h, x.length ≤ 1000) :
    Calls Try.prog 30 #[.slice a ps.length ca, .slice g h.length cg, .int .i64 i] w fun e w' => e = .returned (.tuple #[.int .i64 (whN ps h i), .bool (whB ps h i), .int .i64 (whC ps h i)]) ∧ Below w.heap.size w w' := by
  have HV := Lib.hid (rHval_any a g ca cg ps h w hp hh hpl hhl hm)
  have HH := Lib.hid hh
  by_cases hv : vst ps h = 0
  · by_cases h0 : i < 0
    · have hc : whC ps h i = 4 := by unfold whC; rw [if_pos hv, if_neg (fun e => by have := btw_true.1 e; omega)]
      obtain ⟨e1, e2⟩ := wh_bad (ps := ps) (h := h) (i := i) (by rw [hc]; decide)
      have d1 : decide (i < 0) = true := decide_eq_true h0
      rw [e1, e2, hc]
      rw [hv] at HV
      clear hv hc e1 e2 hp hh hm h0
      go_enter Try.func30, Try.ntmps30
      go_wp2_with fail
      refine HV.out.mono ?_
      rintro e w1 ⟨rfl, hB⟩
      have HB := Lib.hid hB
      clear hB
      go_wp2_with fail
      go_ret3
      exact ⟨rfl, HB.out⟩
    · have d1 : decide (i < 0) = false := decide_eq_false h0
      by_cases hl : (ps.length : Int) ≤ i
      · have hc : whC ps h i = 4 := by unfold whC; rw [if_pos hv, if_neg (fun e => by have := btw_true.1 e; omega)]
        obtain ⟨e1, e2⟩ := wh_bad (ps := ps) (h := h) (i := i) (by rw [hc]; decide)
        have d2 : decide ((ps.length : Int) ≤ i) = true := decide_eq_true hl
        rw [e1, e2, hc]
        rw [hv] at HV
        clear hv hc e1 e2 hp hh hm h0 hl
        go_enter Try.func30, Try.ntmps30
        go_wp2_with fail
        refine HV.out.mono ?_
        rintro e w1 ⟨rfl, hB⟩
        have HB := Lib.hid hB
        clear hB
        go_wp2_with fail
        go_ret3
        exact ⟨rfl, HB.out⟩
      · have d2 : decide ((ps.length : Int) ≤ i) = false := decide_eq_false hl
        obtain ⟨hc, ho⟩ := wh_ok (h := h) hv (btw_true.2 (show 0 ≤ i ∧ i ≤ (ps.length : Int) - 1 by omega))
        have hr : ∀ n : Nat, whoK h i h.length = some n → whN ps h i = (n : Int) ∧ whB ps h i = true := fun n e => by
          rw [e] at ho
          exact ⟨by unfold whN; rw [ho], by unfold whB; rw [ho]; rfl⟩
        have hr0 : whoK h i h.length = none → whN ps h i = 0 ∧ whB ps h i = false := fun e => by
          rw [e] at ho
          exact ⟨by unfold whN; rw [ho], by unfold whB; rw [ho]; rfl⟩
        have HR := Lib.hid hr
        have HR0 := Lib.hid hr0
        have h8 := (vst_ok hv).2.1
        have HTC := Lib.hid (fun a' c' b' (x : List E) (hx : x ∈ h) w h1 h2 => rTouch_any a' b' c' 1 x [eAt i] w h1 h2 (hm x hx) (by simp))
        rw [hc]
        rw [hv] at HV
        clear hv hc ho hr hr0 hp hh hm h0 hl
        go_enter Try.func30, Try.ntmps30
        go_wp2_with fail
        refine HV.out.mono ?_
        rintro e w1 ⟨rfl, hB⟩
        have HB := Lib.hid hB
        clear hB HV
        go_wp2_with fail
        go_loopw [10] (fun s10 wr => ∃ (k : Nat) (m : Int), s10 = .int .i64 m ∧ m + 1 = (k : Int) ∧ k ≤ h.length ∧ whoK h i k = whoK h i h.length ∧ Below w.heap.size w wr) (fun s10 _ => (intOf s10 + 1).toNat)
        case atStart => exact ⟨h.length, _, rfl, by omega, Nat.le_refl _, rfl, HB.out⟩
        case round =>
          clear HB
          obtain ⟨k, m, rfl, hm1, hk, hw, hB⟩ := hrel
          have HW := Lib.hid hw
          have HB := Lib.hid hB
          clear hw hB
          cases k with
          | zero =>
            obtain rfl : m = -1 := by omega
            obtain ⟨r1, r2⟩ := HR0.out (by rw [← HW.out]; rfl)
            have R1 := Lib.hid r1
            have R2 := Lib.hid r2
            clear r1 r2 hm1
            go_wp2_with fail
            go_ret3
            exact ⟨by rw [R1.out, R2.out] <;> rfl, HB.out⟩
          | succ n =>
            obtain rfl : m = (n : Int) := by omega
            obtain ⟨b, off, x, ax, cx, rfl, hlb, hx, c0, hxe⟩ := (HH.out.below HB.out (Nat.le_refl _)).at_ (k := n) (by omega)
            have hra := rpA_at hx
            have HX := Lib.hid hxe
            have HQ := Lib.hid (HTC.out ax cx (some ⟨wr.heap.size, 0, none⟩) x (mem_of_get hx) (wr.alloc (.cells #[.int .i64 i, .int .i64 0, .int .i64 0, .int .i64 0, .int .i64 0] 50)) (hxe.below ((Below.refl _ _).alloc (Nat.le_refl _) _) (Nat.le_refl _)) (edits_at i wr))
            obtain ⟨V, hV⟩ : ∃ V, x.any (fun a => a.at_ == i) = V := ⟨_, rfl⟩
            have HVR := Lib.hid (show (rpA h n).any (fun a => a.at_ == i) = V by rw [hra]; exact hV)
            rw [touH_at, hV] at HQ
            have j0 : (0 : Int) ≤ (n : Int) := by omega
            have j1 : (n : Int) < (h.length : Int) := by omega
            clear hx hra hV hxe hm1
            go_wp2_with fail
            refine HQ.out.mono ?_
            rintro e w5 ⟨rfl, hB⟩
            have HB5 := Lib.hid ((HB.out.alloc HB.out.size _).trans (hB.mono (by have := HB.out.size; simp; omega)))
            clear hB HQ
            cases V
            · have HN := Lib.hid ((whoK_no HVR.out).symm.trans HW.out)
              go_wp2_with fail
              go_roundw
              case rel => exact ⟨n, (n : Int) - 1, by go_num, by omega, by omega, HN.out, HB5.out⟩
              case measure => simp [intOf] <;> omega
            · obtain ⟨r1, r2⟩ := HR.out n (by rw [← HW.out]; exact whoK_yes HVR.out)
              have R1 := Lib.hid r1
              have R2 := Lib.hid r2
              clear r1 r2
              go_wp2_with fail
              go_ret3
              exact ⟨by rw [R1.out, R2.out] <;> rfl, HB5.out⟩
  · have hc : whC ps h i = vst ps h := by unfold whC; rw [if_neg hv]
    obtain ⟨e1, e2⟩ := wh_bad (ps := ps) (h := h) (i := i) (by rw [hc]; exact hv)
    have hz1 : (vst ps h != 0) = true := by simpa using hv
    rw [e1, e2, hc]
    clear hv hc e1 e2 hp hh hm
    generalize vst ps h = c at *
    go_enter Try.func30, Try.ntmps30
    go_wp2_with fail
    refine HV.out.mono ?_
    rintro e w1 ⟨rfl, hB⟩
    have HB := Lib.hid hB
    clear hB
    go_wp2_with fail
    go_ret3
    exact ⟨rfl, HB.out⟩

end Go.Proofs.Ytikblaebfpdngaa

/- StoryWhos: the walk. -/
set_option linter.unusedVariables false
set_option linter.unusedSimpArgs false
namespace Go.Proofs.Ytikblaebfpdngaa
open Go.RowKit Tinker

/-- The last line among edits at a place. -/
def whL (d : L) (i : Int) (xs : List E) : L := xs.foldl (fun l e => if e.at_ == i then e.ln else l) d
theorem whL_none {i : Int} : ∀ {xs : List E} (d : L), (∀ e ∈ xs, e.at_ ≠ i) → whL d i xs = d
  | [], d, _ => rfl
  | e :: r, d, h => by
    show whL (if e.at_ == i then e.ln else d) i r = _
    rw [if_neg (by simpa using h e (by simp))]
    exact whL_none d (fun a ha => h a (by simp [ha]))
theorem whL_atX {i : Int} : ∀ {xs : List E} (d : L), dist xs → whL d i xs = (atX xs i).getD d
  | [], d, _ => rfl
  | e :: r, d, h => by
    rw [atX_cons]
    show whL (if e.at_ == i then e.ln else d) i r = _
    obtain ⟨h1, h2⟩ := List.pairwise_cons.1 h
    by_cases he : e.at_ = i
    · rw [if_pos he, if_pos (by simpa using he)]
      exact whL_none _ (fun a ha e9 => by have := h1 a ha; omega)
    · rw [if_neg he, if_neg (by simpa using he)]
      exact whL_atX d h2
theorem whL_step {d : L} {i : Int} {xs : List E} {k : Nat} {e : E} (he : xs[k]? = some e) : whL d i (xs.take (k + 1)) = if e.at_ == i then e.ln else whL d i (xs.take k) := by
  unfold whL
  rw [List.take_add_one, he, List.foldl_append]
  rfl
theorem vst_dist {ps : List L} {h : List (List E)} (e : vst ps h = 0) (n : Nat) : dist (rpA h n) := by
  cases hn : h[n]? with
  | none =>
    have : rpA h n = [] := by unfold rpA; rw [List.getD_eq_getElem?_getD, hn]; rfl
    rw [this]
    exact List.Pairwise.nil
  | some x =>
    rw [rpA_at hn]
    obtain ⟨_, h2, _, _⟩ := vpx_ok ((vst_ok e).2.2 x (List.mem_of_getElem? hn))
    exact dist_of (vx_ok h2).2.1
def lnC4 (l : L) : Array Value := #[.int .i64 l.op, .int .i64 l.to, .int .i64 l.a, .int .i64 l.b]
theorem put4 {W : World} {K : Nat} {l m : L} (h : W.heap[K]? = some (.cells #[.int .i64 l.op, .int .i64 l.to, .int .i64 l.a, .int .i64 l.b] 33 (0, 0))) :
    ((((W.setCell ⟨K, 0, none⟩ (.int .i64 m.op)).setCell ⟨K, 1, none⟩ (.int .i64 m.to)).setCell ⟨K, 2, none⟩ (.int .i64 m.a)).setCell ⟨K, 3, none⟩ (.int .i64 m.b)).heap[K]? = some (.cells #[.int .i64 m.op, .int .i64 m.to, .int .i64 m.a, .int .i64 m.b] 33 (0, 0)) :=
  hp_put (hp_put (hp_put (hp_put h 0 _) 1 _) 2 _) 3 _

set_option maxRecDepth 100000 in
set_option maxHeartbeats 8000000 in
theorem storyWhos_walk (a : Option Addr) (ca : Nat) (ps : List L) (g : Option Addr) (cg : Nat) (h : List (List E)) (n : Int) (w : World) (hp : LinesAt w a ps) (hc : a = none → ca = 0) (hh : RowsEAt w g h) (hc1 : g = none → cg = 0) (hcg : h.length ≤ cg) (hml : h.length ≤ maxLen) :
    Calls Try.prog 8 #[.slice a ps.length ca, .slice g h.length cg, .int .i64 n] w fun e w' => e = .returned (.bool true) ∧ Below w.heap.size w w' := by
  have HK := Lib.hid (fun w => sane7_true w)
  have HL := Lib.hid (fun w hh => long7_any a g ps.length ca cg h w hh hml)
  have HP := Lib.hid hp
  have HH := Lib.hid hh
  cases hl : lng7 ps.length h
  · obtain ⟨hpl0, hhl0, hm0⟩ := lng7_no hl
    have hpl : ps.length ≤ 1000 := by omega
    have hhl : h.length ≤ 1000 := by omega
    have hm : ∀ x ∈ h, x.length ≤ 1000 := fun x hx => by have := hm0 x hx; omega
    rw [hl] at HL
    have C1 := Lib.hid (fun w h1 h2 => stWho_any a g ca cg ps h n w h1 h2 hpl hhl hm)
    have C2 := Lib.hid (fun w h1 h2 => rWho_any a g ca cg ps h n w h1 h2 hpl hhl hm)
    have C3 := Lib.hid (fun w h1 h2 => stPlay_any a g ca cg ps h w h1 h2 hpl hhl hm)
    clear hc hcg
    clear hp hh hc1 hml hl hm0
    by_cases hz : whC ps h n = 0
    · have hv : vst ps h = 0 := by
        refine Decidable.byContradiction fun h9 => ?_
        unfold whC at hz
        rw [if_neg h9] at hz
        exact h9 hz
      have hb : btw n 0 ((ps.length : Int) - 1) = true := by
        cases h9 : btw n 0 ((ps.length : Int) - 1) with
        | true => rfl
        | false => unfold whC at hz; rw [if_pos hv, h9] at hz; cases hz
      obtain ⟨hb1, hb2⟩ := btw_true.1 hb
      obtain ⟨l, rfl⟩ : ∃ l : Nat, n = (l : Int) := ⟨n.toNat, by omega⟩
      have hll : l < ps.length := by omega
      obtain ⟨_, ho⟩ := wh_ok (ps := ps) (h := h) hv hb
      have hpr : plyR ps h = plyF ps h := by unfold plyR; rw [if_pos hv]
      have hql : (plyF ps h).length = ps.length := plyF_len ps h
      have hwl := who_line (vst_dist hv) (vst_places hv) hll h.length
      rw [← plyF_all] at hwl
      rw [hz] at C1 C2
      rw [hv, hpr] at C3
      obtain ⟨dl, hdl⟩ := get_of_lt hll
      have hdd : ps.getD l ⟨0, 0, 0, 0⟩ = dl := by rw [List.getD_eq_getElem?_getD, hdl]; rfl
      rw [hdd] at hwl
      have HDL := Lib.hid hdl
      cases hw : whoK h (l : Int) h.length with
      | none =>
        have hN : whN ps h (l : Int) = 0 := by rw [hw] at ho; unfold whN; rw [ho]
        have hB9 : whB ps h (l : Int) = false := by rw [hw] at ho; unfold whB; rw [ho]; rfl
        rw [hw] at hwl
        have HQL := Lib.hid (show (plyF ps h)[l]? = some dl from hwl)
        rw [hN, hB9] at C1 C2
        clear hN hB9 ho hw hpr hz hb hm hwl hdd hdl hv
        go_enter Try.func8, Try.ntmps8
        go_wp2_with fail
        refine (HL.out _ HH.out).mono ?_
        rintro e w0 ⟨rfl, rfl⟩
        go_wp2_with fail
        refine (C1.out _ HP.out HH.out).mono ?_
        rintro e w1 ⟨rfl, hB⟩
        have HB := Lib.hid hB
        clear hB
        go_wp2_with fail
        refine (C2.out _ (HP.out.below HB.out (Nat.le_refl _)) (HH.out.below HB.out (Nat.le_refl _))).mono ?_
        rintro e w2 ⟨rfl, hB⟩
        have HB := Lib.hid (HB.out.trans (hB.mono HB.out.size))
        clear hB
        go_wp2_with fail
        refine (C3.out _ (HP.out.below HB.out (Nat.le_refl _)) (HH.out.below HB.out (Nat.le_refl _))).mono ?_
        rintro e w3 ⟨a3, c3, rfl, ho, hB⟩
        have HB := Lib.hid (HB.out.trans (hB.mono HB.out.size))
        have H3 := Lib.hid ((lines_of_own ho).1)
        clear hB ho
        obtain ⟨b9, off, x, rfl, hlb, hx, c0, c1, c2, c4⟩ := (HP.out.below HB.out (Nat.le_refl _)).at_ hll
        obtain rfl : x = dl := Option.some.inj (hx.symm.trans HDL.out)
        rw [hql]
        obtain ⟨K, hK⟩ : ∃ K, K = w3.heap.size := ⟨_, rfl⟩
        have HKb := Lib.hid (show (w3.alloc (.cells #[.int .i64 x.op, .int .i64 x.to, .int .i64 x.a, .int .i64 x.b] 33)).heap[K]? = some (.cells #[.int .i64 x.op, .int .i64 x.to, .int .i64 x.a, .int .i64 x.b] 33 (0, 0)) from by rw [hK]; exact heap_new _ _)
        have HA4 := Lib.hid ((Below.refl w3.heap.size w3).alloc (Nat.le_refl _) (.cells #[.int .i64 x.op, .int .i64 x.to, .int .i64 x.a, .int .i64 x.b] 33))
        have hK3 : w3.heap.size ≤ K := by omega
        go_upto_region 13 with fail
        rw [← hK]
        generalize w3.alloc _ = w4 at *
        clear c0 c1 c2 c4 hx hK hlb
        go_wp2_with fail
        go_loopw [16] (fun s16 wr => s16 = .int .i64 0 ∧ wr = w4) (fun _ _ => 0)
        case atStart => exact ⟨rfl, rfl⟩
        case round =>
          obtain ⟨rfl, rfl⟩ := hrel
          have HR := HA4
          have HKr := HKb
          have HBw := Lib.hid (HB.out.trans (HR.out.mono HB.out.size))
          obtain ⟨b8, off8, y0, rfl, hl8, hy, d0, d1, d2, d3⟩ := (H3.out.below HR.out (Nat.le_refl _)).at_ (k := l) (by rw [hql]; exact hll)
          have hyw : y0 = x := Option.some.inj (hy.symm.trans HQL.out)
          obtain ⟨y, hy9⟩ : ∃ y, y = x := ⟨_, rfl⟩
          rw [← hy9] at hyw HKr
          rw [hyw] at d0 d1 d2 d3
          have hKl := hp_lt HKr.out
          have k0 := hp_cell HKr.out (j := 0) rfl
          have k1 := hp_cell HKr.out (j := 1) rfl
          have k2 := hp_cell HKr.out (j := 2) rfl
          have k3 := hp_cell HKr.out (j := 3) rfl
          have j0 : (0 : Int) ≤ (l : Int) := by omega
          have j1 : (l : Int) < (ps.length : Int) := by omega
          clear hy hyw hy9
          go_upto_region 18 with fail
          refine wp_region_held_drew (S := (fun W2 => Below wr.heap.size wr W2)) (by kernel_rfl) ?_ (fun hHeld => ?_)
          · exact (Below.refl _ _).drew
          have HBd := Lib.hid ((Below.refl wr.heap.size wr).drew)
          generalize World.drew _ = Wd at *
          refine wpAnyH_take (i := 0) (oi := ?oiq1) (v := (.slice (some ⟨b8, off8, none⟩) ps.length c3)) ?hiq1 (by kernel_rfl) (by kernel_rfl) (by kernel_rfl) ?hqq1 ?hyq1 hHeld ?restq1
          case hiq1 => exact rfl
          case hqq1 => exact fun _ _ _ h => h
          case hyq1 =>
            refine Or.inl ⟨by rfl, ?_⟩
            intro w hSw
            go_simp
            (try with_reducible rfl)
          try simp only [Act.put, List.getElem_toArray, List.getElem_cons_succ, List.getElem_cons_zero, List.setIfInBounds_toArray, List.set_cons_zero, List.set_cons_succ]
          refine wpAnyH_take (i := 1) (oi := ?oiq2) (v := (.int .i64 l)) ?hiq2 (by kernel_rfl) (by kernel_rfl) (by kernel_rfl) ?hqq2 ?hyq2 hHeld ?restq2
          case hiq2 => exact rfl
          case hqq2 => exact fun _ _ _ h => h
          case hyq2 =>
            refine Or.inl ⟨by rfl, ?_⟩
            intro w hSw
            go_simp
            (try with_reducible rfl)
          try simp only [Act.put, List.getElem_toArray, List.getElem_cons_succ, List.getElem_cons_zero, List.setIfInBounds_toArray, List.set_cons_zero, List.set_cons_succ]
          refine wpAnyH_take (i := 2) (oi := ?oiq3) (v := (.pointer (some ⟨b8, off8 + l * 4, none⟩))) ?hiq3 (by kernel_rfl) (by kernel_rfl) (by kernel_rfl) ?hqq3 ?hyq3 hHeld ?restq3
          case hiq3 => exact rfl
          case hqq3 => exact fun _ _ _ h => h
          case hyq3 =>
            refine Or.inl ⟨by rfl, ?_⟩
            intro w hSw
            go_simp
            (try with_reducible rfl)
          try simp only [Act.put, List.getElem_toArray, List.getElem_cons_succ, List.getElem_cons_zero, List.setIfInBounds_toArray, List.set_cons_zero, List.set_cons_succ]
          refine wpAnyH_take (i := 3) (oi := ?oiq4) (v := (.agg #[.int .i64 y.op, .int .i64 y.to, .int .i64 y.a, .int .i64 y.b])) ?hiq4 (by kernel_rfl) (by kernel_rfl) (by kernel_rfl) ?hqq4 ?hyq4 hHeld ?restq4
          case hiq4 => exact rfl
          case hqq4 => exact fun _ _ _ h => h
          case hyq4 =>
            refine Or.inl ⟨by rfl, ?_⟩
            intro w hSw
            have m0 := (hSw.cell (p := ⟨b8, _, none⟩) hl8).trans d0
            have m1 := (hSw.cell (p := ⟨b8, _, none⟩) hl8).trans d1
            have m2 := (hSw.cell (p := ⟨b8, _, none⟩) hl8).trans d2
            have m3 := (hSw.cell (p := ⟨b8, _, none⟩) hl8).trans d3
            go_simp
            (try with_reducible rfl)
          try simp only [Act.put, List.getElem_toArray, List.getElem_cons_succ, List.getElem_cons_zero, List.setIfInBounds_toArray, List.set_cons_zero, List.set_cons_succ]
          refine wpAnyH_take (i := 4) (oi := ?oiq5) (v := (.agg #[.int .i64 y.op, .int .i64 y.to, .int .i64 y.a, .int .i64 y.b])) ?hiq5 (by kernel_rfl) (by kernel_rfl) (by kernel_rfl) ?hqq5 ?hyq5 hHeld ?restq5
          case hiq5 => exact rfl
          case hqq5 => exact fun _ _ _ h => h
          case hyq5 =>
            refine Or.inl ⟨by rfl, ?_⟩
            intro w hSw
            have m0 := (hSw.cell (p := ⟨K, _, none⟩) hKl).trans k0
            have m1 := (hSw.cell (p := ⟨K, _, none⟩) hKl).trans k1
            have m2 := (hSw.cell (p := ⟨K, _, none⟩) hKl).trans k2
            have m3 := (hSw.cell (p := ⟨K, _, none⟩) hKl).trans k3
            go_simp
            (try with_reducible rfl)
          try simp only [Act.put, List.getElem_toArray, List.getElem_cons_succ, List.getElem_cons_zero, List.setIfInBounds_toArray, List.set_cons_zero, List.set_cons_succ]
          refine wpAnyH_take (i := 5) (oi := ?oiq6) (v := (.bool true)) ?hiq6 (by kernel_rfl) (by kernel_rfl) (by kernel_rfl) ?hqq6 ?hyq6 hHeld ?restq6
          case hiq6 => exact rfl
          case hqq6 => exact fun _ _ _ h => h
          case hyq6 =>
            refine Or.inl ⟨by rfl, ?_⟩
            intro w hSw
            go_simp
            (try with_reducible rfl)
          try simp only [Act.put, List.getElem_toArray, List.getElem_cons_succ, List.getElem_cons_zero, List.setIfInBounds_toArray, List.set_cons_zero, List.set_cons_succ]
          refine wpAnyH_take (i := 6) (oi := ?oiq7) (v := (.bool true)) ?hiq7 (by kernel_rfl) (by kernel_rfl) (by kernel_rfl) ?hqq7 ?hyq7 hHeld ?restq7
          case hiq7 => exact rfl
          case hqq7 => exact fun _ _ _ h => h
          case hyq7 =>
            refine Or.inl ⟨by rfl, ?_⟩
            intro w hSw
            go_simp
            (try with_reducible rfl)
          try simp only [Act.put, List.getElem_toArray, List.getElem_cons_succ, List.getElem_cons_zero, List.setIfInBounds_toArray, List.set_cons_zero, List.set_cons_succ]
          refine wpAnyH_ready (rs := [7]) (by kernel_rfl) (by simp) ?_
          refine AllReadyH.cons (o := ?or10_7) ?hr10_7 ?kr10_7 AllReadyH.nil
          case hr10_7 => exact rfl
          case kr10_7 =>
            intro Kz hKz
            go_simp
            refine (HK.out _).mono ?_
            rintro e w9 ⟨rfl, hB⟩
            have HB9 := Lib.hid (HBd.out.trans (hB.mono HBd.out.size))
            clear hB
            refine hKz.out _ _ HB9.out (fun hHeld => ?_)
            clear hKz Kz
            try simp only [Act.put, List.getElem_toArray, List.getElem_cons_succ, List.getElem_cons_zero, List.setIfInBounds_toArray, List.set_cons_zero, List.set_cons_succ]
            refine wpAnyH_take (i := 8) (oi := ?oiq8) (v := (.bool true)) ?hiq8 (by kernel_rfl) (by kernel_rfl) (by kernel_rfl) ?hqq8 ?hyq8 hHeld ?restq8
            case hiq8 => exact rfl
            case hqq8 => exact fun _ _ _ h => h
            case hyq8 =>
              refine Or.inl ⟨by rfl, ?_⟩
              intro w hSw
              go_simp
              (try with_reducible rfl)
            try simp only [Act.put, List.getElem_toArray, List.getElem_cons_succ, List.getElem_cons_zero, List.setIfInBounds_toArray, List.set_cons_zero, List.set_cons_succ]
            refine wpAnyH_take (i := 9) (oi := ?oiq9) (v := (.bool true)) ?hiq9 (by kernel_rfl) (by kernel_rfl) (by kernel_rfl) ?hqq9 ?hyq9 hHeld ?restq9
            case hiq9 => exact rfl
            case hqq9 => exact fun _ _ _ h => h
            case hyq9 =>
              refine Or.inl ⟨by rfl, ?_⟩
              intro w hSw
              go_simp
              (try with_reducible rfl)
            try simp only [Act.put, List.getElem_toArray, List.getElem_cons_succ, List.getElem_cons_zero, List.setIfInBounds_toArray, List.set_cons_zero, List.set_cons_succ]
            refine wpAnyH_done (by kernel_rfl) ?_ _
            clear hHeld
            go_wp2_with fail
            go_ret
            exact ⟨rfl, HBw.out.trans (HB9.out.mono HBw.out.size)⟩
      | some m =>
        have hN : whN ps h (l : Int) = (m : Int) := by rw [hw] at ho; unfold whN; rw [ho]
        have hB9 : whB ps h (l : Int) = true := by rw [hw] at ho; unfold whB; rw [ho]; rfl
        have hml := whoK_lt hw
        rw [hw] at hwl
        obtain ⟨xs, hxs⟩ := get_of_lt hml
        have HQL := Lib.hid (show (plyF ps h)[l]? = some (whL dl (l : Int) xs) from by
          rw [whL_atX dl (by have := vst_dist hv m; rwa [rpA_at hxs] at this)]
          have h9 : (plyF ps h)[l]? = some ((atX (rpA h m) l).getD dl) := hwl
          rwa [rpA_at hxs] at h9)
        have hx4 : xs.length ≤ 1000 := hm xs (mem_of_get hxs)
        have HXS := Lib.hid hxs
        rw [hN, hB9] at C1 C2
        clear hN hB9 ho hw hpr hz hb hm hwl hdd hdl hv hxs
        go_enter Try.func8, Try.ntmps8
        go_wp2_with fail
        refine (HL.out _ HH.out).mono ?_
        rintro e w0 ⟨rfl, rfl⟩
        go_wp2_with fail
        refine (C1.out _ HP.out HH.out).mono ?_
        rintro e w1 ⟨rfl, hB⟩
        have HB := Lib.hid hB
        clear hB
        go_wp2_with fail
        refine (C2.out _ (HP.out.below HB.out (Nat.le_refl _)) (HH.out.below HB.out (Nat.le_refl _))).mono ?_
        rintro e w2 ⟨rfl, hB⟩
        have HB := Lib.hid (HB.out.trans (hB.mono HB.out.size))
        clear hB
        go_wp2_with fail
        refine (C3.out _ (HP.out.below HB.out (Nat.le_refl _)) (HH.out.below HB.out (Nat.le_refl _))).mono ?_
        rintro e w3 ⟨a3, c3, rfl, ho, hB⟩
        have HB := Lib.hid (HB.out.trans (hB.mono HB.out.size))
        have H3 := Lib.hid ((lines_of_own ho).1)
        clear hB ho
        obtain ⟨b9, off, x, rfl, hlb, hx, c0, c1, c2, c4⟩ := (HP.out.below HB.out (Nat.le_refl _)).at_ hll
        obtain rfl : x = dl := Option.some.inj (hx.symm.trans HDL.out)
        rw [hql]
        obtain ⟨K, hK⟩ : ∃ K, K = w3.heap.size := ⟨_, rfl⟩
        have HKb := Lib.hid (show (w3.alloc (.cells #[.int .i64 x.op, .int .i64 x.to, .int .i64 x.a, .int .i64 x.b] 33)).heap[K]? = some (.cells #[.int .i64 x.op, .int .i64 x.to, .int .i64 x.a, .int .i64 x.b] 33 (0, 0)) from by rw [hK]; exact heap_new _ _)
        have HA4 := Lib.hid ((Below.refl w3.heap.size w3).alloc (Nat.le_refl _) (.cells #[.int .i64 x.op, .int .i64 x.to, .int .i64 x.a, .int .i64 x.b] 33))
        have hK3 : w3.heap.size ≤ K := by omega
        go_upto_region 13 with fail
        rw [← hK]
        generalize w3.alloc _ = w4 at *
        clear c0 c1 c2 c4 hx hK hlb
        have i0 : (0 : Int) ≤ (m : Int) := by omega
        have i1 : (m : Int) < (h.length : Int) := by omega
        go_wp2_with fail
        go_loopw [16] (fun s16 wr => ∃ j : Nat, j ≤ xs.length ∧ s16 = .int .i64 j ∧ wr.heap[K]? = some (.cells #[.int .i64 (whL x l (xs.take j)).op, .int .i64 (whL x l (xs.take j)).to, .int .i64 (whL x l (xs.take j)).a, .int .i64 (whL x l (xs.take j)).b] 33 (0, 0)) ∧ Below w3.heap.size w3 wr) (fun s16 _ => xs.length - (intOf s16).toNat)
        case atStart => exact ⟨0, Nat.zero_le _, rfl, HKb.out, HA4.out⟩
        case round =>
          clear HKb HA4
          obtain ⟨j, hj, rfl, hKr, hR⟩ := hrel
          have HKr := Lib.hid hKr
          have HR := Lib.hid hR
          clear hKr hR
          have HBr := Lib.hid (HB.out.trans (HR.out.mono HB.out.size))
          obtain ⟨gb, goff, xx, ax, cx, rfl, hgl, hxx, r0, hxe⟩ := (HH.out.below HBr.out (Nat.le_refl _)).at_ hml
          obtain rfl : xx = xs := Option.some.inj (hxx.symm.trans HXS.out)
          clear hxx
          by_cases hjl : j < xx.length
          · obtain ⟨b7, o7, e, rfl, hl7, he, f0, f1, f2, f3, f4⟩ := hxe.at_ hjl
            have HST := Lib.hid (whL_step (d := x) (i := (l : Int)) he)
            have k0 := hp_cell HKr.out (j := 0) rfl
            have k1 := hp_cell HKr.out (j := 1) rfl
            have k2 := hp_cell HKr.out (j := 2) rfl
            have k3 := hp_cell HKr.out (j := 3) rfl
            have z0 := hp_free HKr.out 0
            have z1 := hp_free HKr.out 1
            have z2 := hp_free HKr.out 2
            have z3 := hp_free HKr.out 3
            have i2 : (0 : Int) ≤ (j : Int) := by omega
            have i3 : (j : Int) < (xx.length : Int) := by omega
            clear he
            cases hI : (e.at_ == (l : Int))
            · rw [hI] at HST
              have HN := Lib.hid (show whL x l (xx.take (j + 1)) = whL x l (xx.take j) from HST.out)
              go_wp2_with fail
              go_roundw
              case rel => exact ⟨j + 1, by omega, by go_num, by rw [HN.out]; exact HKr.out, HR.out⟩
              case measure => simp [intOf]; omega
            · rw [hI] at HST
              have HN := Lib.hid (show whL x l (xx.take (j + 1)) = e.ln from HST.out)
              have HKn := Lib.hid (put4 (m := e.ln) HKr.out)
              have HRn := Lib.hid ((((HR.out.setCell (p := ⟨K, 0, none⟩) hK3 (.int .i64 e.ln.op)).setCell (p := ⟨K, 1, none⟩) hK3 (.int .i64 e.ln.to)).setCell (p := ⟨K, 2, none⟩) hK3 (.int .i64 e.ln.a)).setCell (p := ⟨K, 3, none⟩) hK3 (.int .i64 e.ln.b))
              go_wp2_with fail
              go_roundw
              case rel => exact ⟨j + 1, by omega, by go_num, by rw [HN.out]; exact HKn.out, HRn.out⟩
              case measure => simp [intOf]; omega
          · obtain rfl : j = xx.length := by omega
            have hta : xx.take xx.length = xx := List.take_length
            rw [hta] at HKr
            clear hta HBr hxe
            have HBw := Lib.hid (HB.out.trans (HR.out.mono HB.out.size))
            obtain ⟨b8, off8, y0, rfl, hl8, hy, d0, d1, d2, d3⟩ := (H3.out.below HR.out (Nat.le_refl _)).at_ (k := l) (by rw [hql]; exact hll)
            have hyw : y0 = (whL x (l : Int) xx) := Option.some.inj (hy.symm.trans HQL.out)
            obtain ⟨y, hy9⟩ : ∃ y, y = (whL x (l : Int) xx) := ⟨_, rfl⟩
            rw [← hy9] at hyw HKr
            rw [hyw] at d0 d1 d2 d3
            have hKl := hp_lt HKr.out
            have k0 := hp_cell HKr.out (j := 0) rfl
            have k1 := hp_cell HKr.out (j := 1) rfl
            have k2 := hp_cell HKr.out (j := 2) rfl
            have k3 := hp_cell HKr.out (j := 3) rfl
            have j0 : (0 : Int) ≤ (l : Int) := by omega
            have j1 : (l : Int) < (ps.length : Int) := by omega
            clear hy hyw hy9
            go_upto_region 18 with fail
            refine wp_region_held_drew (S := (fun W2 => Below wr.heap.size wr W2)) (by kernel_rfl) ?_ (fun hHeld => ?_)
            · exact (Below.refl _ _).drew
            have HBd := Lib.hid ((Below.refl wr.heap.size wr).drew)
            generalize World.drew _ = Wd at *
            refine wpAnyH_take (i := 0) (oi := ?oiq11) (v := (.slice (some ⟨b8, off8, none⟩) ps.length c3)) ?hiq11 (by kernel_rfl) (by kernel_rfl) (by kernel_rfl) ?hqq11 ?hyq11 hHeld ?restq11
            case hiq11 => exact rfl
            case hqq11 => exact fun _ _ _ h => h
            case hyq11 =>
              refine Or.inl ⟨by rfl, ?_⟩
              intro w hSw
              go_simp
              (try with_reducible rfl)
            try simp only [Act.put, List.getElem_toArray, List.getElem_cons_succ, List.getElem_cons_zero, List.setIfInBounds_toArray, List.set_cons_zero, List.set_cons_succ]
            refine wpAnyH_take (i := 1) (oi := ?oiq12) (v := (.int .i64 l)) ?hiq12 (by kernel_rfl) (by kernel_rfl) (by kernel_rfl) ?hqq12 ?hyq12 hHeld ?restq12
            case hiq12 => exact rfl
            case hqq12 => exact fun _ _ _ h => h
            case hyq12 =>
              refine Or.inl ⟨by rfl, ?_⟩
              intro w hSw
              go_simp
              (try with_reducible rfl)
            try simp only [Act.put, List.getElem_toArray, List.getElem_cons_succ, List.getElem_cons_zero, List.setIfInBounds_toArray, List.set_cons_zero, List.set_cons_succ]
            refine wpAnyH_take (i := 2) (oi := ?oiq13) (v := (.pointer (some ⟨b8, off8 + l * 4, none⟩))) ?hiq13 (by kernel_rfl) (by kernel_rfl) (by kernel_rfl) ?hqq13 ?hyq13 hHeld ?restq13
            case hiq13 => exact rfl
            case hqq13 => exact fun _ _ _ h => h
            case hyq13 =>
              refine Or.inl ⟨by rfl, ?_⟩
              intro w hSw
              go_simp
              (try with_reducible rfl)
            try simp only [Act.put, List.getElem_toArray, List.getElem_cons_succ, List.getElem_cons_zero, List.setIfInBounds_toArray, List.set_cons_zero, List.set_cons_succ]
            refine wpAnyH_take (i := 3) (oi := ?oiq14) (v := (.agg #[.int .i64 y.op, .int .i64 y.to, .int .i64 y.a, .int .i64 y.b])) ?hiq14 (by kernel_rfl) (by kernel_rfl) (by kernel_rfl) ?hqq14 ?hyq14 hHeld ?restq14
            case hiq14 => exact rfl
            case hqq14 => exact fun _ _ _ h => h
            case hyq14 =>
              refine Or.inl ⟨by rfl, ?_⟩
              intro w hSw
              have m0 := (hSw.cell (p := ⟨b8, _, none⟩) hl8).trans d0
              have m1 := (hSw.cell (p := ⟨b8, _, none⟩) hl8).trans d1
              have m2 := (hSw.cell (p := ⟨b8, _, none⟩) hl8).trans d2
              have m3 := (hSw.cell (p := ⟨b8, _, none⟩) hl8).trans d3
              go_simp
              (try with_reducible rfl)
            try simp only [Act.put, List.getElem_toArray, List.getElem_cons_succ, List.getElem_cons_zero, List.setIfInBounds_toArray, List.set_cons_zero, List.set_cons_succ]
            refine wpAnyH_take (i := 4) (oi := ?oiq15) (v := (.agg #[.int .i64 y.op, .int .i64 y.to, .int .i64 y.a, .int .i64 y.b])) ?hiq15 (by kernel_rfl) (by kernel_rfl) (by kernel_rfl) ?hqq15 ?hyq15 hHeld ?restq15
            case hiq15 => exact rfl
            case hqq15 => exact fun _ _ _ h => h
            case hyq15 =>
              refine Or.inl ⟨by rfl, ?_⟩
              intro w hSw
              have m0 := (hSw.cell (p := ⟨K, _, none⟩) hKl).trans k0
              have m1 := (hSw.cell (p := ⟨K, _, none⟩) hKl).trans k1
              have m2 := (hSw.cell (p := ⟨K, _, none⟩) hKl).trans k2
              have m3 := (hSw.cell (p := ⟨K, _, none⟩) hKl).trans k3
              go_simp
              (try with_reducible rfl)
            try simp only [Act.put, List.getElem_toArray, List.getElem_cons_succ, List.getElem_cons_zero, List.setIfInBounds_toArray, List.set_cons_zero, List.set_cons_succ]
            refine wpAnyH_take (i := 5) (oi := ?oiq16) (v := (.bool true)) ?hiq16 (by kernel_rfl) (by kernel_rfl) (by kernel_rfl) ?hqq16 ?hyq16 hHeld ?restq16
            case hiq16 => exact rfl
            case hqq16 => exact fun _ _ _ h => h
            case hyq16 =>
              refine Or.inl ⟨by rfl, ?_⟩
              intro w hSw
              go_simp
              (try with_reducible rfl)
            try simp only [Act.put, List.getElem_toArray, List.getElem_cons_succ, List.getElem_cons_zero, List.setIfInBounds_toArray, List.set_cons_zero, List.set_cons_succ]
            refine wpAnyH_take (i := 6) (oi := ?oiq17) (v := (.bool true)) ?hiq17 (by kernel_rfl) (by kernel_rfl) (by kernel_rfl) ?hqq17 ?hyq17 hHeld ?restq17
            case hiq17 => exact rfl
            case hqq17 => exact fun _ _ _ h => h
            case hyq17 =>
              refine Or.inl ⟨by rfl, ?_⟩
              intro w hSw
              go_simp
              (try with_reducible rfl)
            try simp only [Act.put, List.getElem_toArray, List.getElem_cons_succ, List.getElem_cons_zero, List.setIfInBounds_toArray, List.set_cons_zero, List.set_cons_succ]
            refine wpAnyH_ready (rs := [7]) (by kernel_rfl) (by simp) ?_
            refine AllReadyH.cons (o := ?or20_7) ?hr20_7 ?kr20_7 AllReadyH.nil
            case hr20_7 => exact rfl
            case kr20_7 =>
              intro Kz hKz
              go_simp
              refine (HK.out _).mono ?_
              rintro e w9 ⟨rfl, hB⟩
              have HB9 := Lib.hid (HBd.out.trans (hB.mono HBd.out.size))
              clear hB
              refine hKz.out _ _ HB9.out (fun hHeld => ?_)
              clear hKz Kz
              try simp only [Act.put, List.getElem_toArray, List.getElem_cons_succ, List.getElem_cons_zero, List.setIfInBounds_toArray, List.set_cons_zero, List.set_cons_succ]
              refine wpAnyH_take (i := 8) (oi := ?oiq18) (v := (.bool true)) ?hiq18 (by kernel_rfl) (by kernel_rfl) (by kernel_rfl) ?hqq18 ?hyq18 hHeld ?restq18
              case hiq18 => exact rfl
              case hqq18 => exact fun _ _ _ h => h
              case hyq18 =>
                refine Or.inl ⟨by rfl, ?_⟩
                intro w hSw
                go_simp
                (try with_reducible rfl)
              try simp only [Act.put, List.getElem_toArray, List.getElem_cons_succ, List.getElem_cons_zero, List.setIfInBounds_toArray, List.set_cons_zero, List.set_cons_succ]
              refine wpAnyH_take (i := 9) (oi := ?oiq19) (v := (.bool true)) ?hiq19 (by kernel_rfl) (by kernel_rfl) (by kernel_rfl) ?hqq19 ?hyq19 hHeld ?restq19
              case hiq19 => exact rfl
              case hqq19 => exact fun _ _ _ h => h
              case hyq19 =>
                refine Or.inl ⟨by rfl, ?_⟩
                intro w hSw
                go_simp
                (try with_reducible rfl)
              try simp only [Act.put, List.getElem_toArray, List.getElem_cons_succ, List.getElem_cons_zero, List.setIfInBounds_toArray, List.set_cons_zero, List.set_cons_succ]
              refine wpAnyH_done (by kernel_rfl) ?_ _
              clear hHeld
              go_wp2_with fail
              go_ret
              exact ⟨rfl, HBw.out.trans (HB9.out.mono HBw.out.size)⟩
    · have hz1 : (whC ps h n != 0) = true := by simpa using hz
      have e1 : (whC ps h n != whC ps h n) = false := by simp
      have e2 : (whN ps h n != whN ps h n) = false := by simp
      have e3 : (whB ps h n != whB ps h n) = false := by simp
      generalize whC ps h n = c at *
      generalize whN ps h n = d at *
      generalize whB ps h n = f at *
      clear hz hm C3
      go_enter Try.func8, Try.ntmps8
      go_wp2_with fail
      refine (HL.out _ HH.out).mono ?_
      rintro e w0 ⟨rfl, rfl⟩
      go_wp2_with fail
      refine (C1.out _ HP.out HH.out).mono ?_
      rintro e w1 ⟨rfl, hB⟩
      have HB := Lib.hid hB
      clear hB
      go_wp2_with fail
      refine (C2.out _ (HP.out.below HB.out (Nat.le_refl _)) (HH.out.below HB.out (Nat.le_refl _))).mono ?_
      rintro e w2 ⟨rfl, hB⟩
      have HB := Lib.hid (HB.out.trans (hB.mono HB.out.size))
      clear hB
      go_wp2_with fail
      refine (HK.out _ ).mono ?_
      rintro e w3 ⟨rfl, hB⟩
      have HB := Lib.hid (HB.out.trans (hB.mono HB.out.size))
      clear hB
      go_wp2_with fail
      go_ret
      exact ⟨rfl, HB.out⟩
  · rw [hl] at HL
    clear hp hh hc hc1 hcg hml hl 
    go_enter Try.func8, Try.ntmps8
    go_wp2_with fail
    refine (HL.out _ HH.out).mono ?_
    rintro e w0 ⟨rfl, rfl⟩
    go_wp2_with fail
    refine (HK.out _ ).mono ?_
    rintro e w1 ⟨rfl, hB⟩
    have HB := Lib.hid hB
    clear hB
    go_wp2_with fail
    go_ret
    exact ⟨rfl, HB.out⟩

end Go.Proofs.Ytikblaebfpdngaa
