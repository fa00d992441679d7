/- Several texts in one. -/
import Derived.RangeFuncNested
import Derived.RangeFuncBound
import Derived.RangeFuncCalls
import Derived.RangeFuncLeaves
import Derived.RangeFuncBox
import Derived.Shelf.Abstract
import Derived.Shelf.RegionOpen
import Derived.OwnWalkIn
import Derived.TacticsInMore
import Derived.LoopNIn
import Derived.LoopIn
import Derived.Test.YtmigkbimdjiigaaSuI
import Derived.Shelf.Sort.Plain
import Derived.Test.YtmigkbimdjiigaaSuN
/- slices.Values, AppendSeq, Collect on numbers: contracts. -/
set_option linter.unusedVariables false
set_option linter.unusedSimpArgs false
namespace Go.Proofs.Ytmigkbimdjiigaa
open Go.RowKit Go.Shelf Tinker
attribute [local go_sem] Oper.semAt_some

/-- The iterator yields xs, each where the guard G holds; no round says 'no more'. -/
def YieldsAll8 {α : Type} (G : List α → α → Prop) (F : Fence) (n : Nat) (P : Program) (g : Nat) (lb : Array Value) (en : α → Array Value) (Kp : World → World → Prop) (xs : List α) (w : World) : Prop :=
  ∀ (l : Nat) (J : List α → World → Prop) (W : World), Below w.heap.size w W → AbidesFrom W.heap.size J →
    (∀ pre x V, G pre x → J pre V → YieldAt F (n - 1) P l (en x) V fun e V' => (e = .returned (.bool true) ∧ J (pre ++ [x]) V' ∧ Kp V V') ∨ (e = .returned (.bool false) ∧ False)) →
    J [] W → CallsIn F n P g (#[.func (.yield l) #[] #[]] ++ lb) W fun e W' => (∃ v, e = .returned v) ∧ J xs W'

set_option maxHeartbeats 1000000 in
theorem rangeFunc_all8 {α : Type} {F : Fence} {n : Nat} {P : Program} {w : World} {G : List α → α → Prop} {g : Operand} {ps : Array Tmp} {assign body : Code} {Q : Exit → Act → World → Prop} {a : Act}
    (hro : F.round = none) (h1 : 1 ≤ n) {gf : Nat} {lb : Array Value} (hg : a.eval g = .func (.func gf) #[] lb) (hF : F.fn gf) (eg : ∀ args w, (callFunc gf args).run P w = .ok (.enter gf args) w)
    {en : α → Array Value} {Kp : World → World → Prop} {xs : List α} {w0 : World} (hseq : YieldsAll8 G F (n - 1) P gf lb en Kp xs w0)
    (hKt : ∀ {A B C : World}, Kp A B → Kp B C → Kp A C) (hKb : ∀ (W : World) (l : Nat) (o o' : Obj), w.heap.size ≤ l → W.heap[l]? = some o → o.isCells = false → o.isWalk = false → Kp W (W.putObj l o'))
    (hb0 : Below w0.heap.size w0 w) (hps : ∀ x, (en x).size = ps.size)
    (I : List α → World → Prop) (hI : OwnFrom w.heap.size I) (h0 : I [] w) (Ax : α → Act → World → Prop) (hAx : ∀ x b, OwnFrom w.heap.size (fun (_ : Unit) W => Ax x b W))
    (hassign : ∀ (l : Nat) (pre : List α) (x : α) (W : World) (K : Act → World → Prop), I pre W → (∀ b W', KeepsFrom w.heap.size W W' → Kp W W' → I pre W' → Ax x b W' → K b W') →
      assign.wpIn (F.inRound l) (n - 1 - 1) P (Exit.then K (fun _ _ _ => False)) { tmps := (ps.zip (en x)).foldl (fun t (p, v) => t.setIfInBounds p v) a.tmps, defers := [] } W)
    (hbody : ∀ (l : Nat) (pre : List α) (x : α) (b : Act) (W : World), w.heap.size ≤ l → G pre x → I pre W → Ax x b W → body.wpIn (F.inRound l) (n - 1 - 1) P (fun e _ W' => e = .normal ∧ KeepsFrom w.heap.size W W' ∧ Kp W W' ∧ I (pre ++ [x]) W') b W)
    (hdone : ∀ (D : Nat) (W : World), w.heap.size ≤ D → I xs W → W.heap[D]? = some (.deferred (some [])) → Q .normal { a with defers := { target := .collected D, args := #[] } :: a.defers } W) :
    (Code.rangeFunc g ps assign body).wpIn F n P Q a w := by
  refine wpIn_rangeFunc fun fn hfn => ?_
  rw [hro]
  let D := w.heap.size
  let rc : LoopState → Loop := fun st => { state := st, pending := none, fn, tmps := a.tmps, params := ps, assign, body, defers := D }
  let V := (w.alloc (.deferred (some []))).alloc (.loop (rc .ready))
  have hD : V.heap[D]? = some (.deferred (some [])) := (Below.heap_alloc _ _ _ (by simp [D])).trans (World.alloc_heap_new w _)
  have hL : V.heap[D + 1]? = some (.loop (rc .ready)) := by
    have h := World.alloc_heap_new (w.alloc (.deferred (some []))) (.loop (rc .ready)); rwa [World.size_alloc] at h
  have hbv : Below w0.heap.size w0 V := hb0.trans ((((Below.refl _ w).alloc (Nat.le_refl _) _).alloc (by simp) _).mono hb0.size)
  have hV : D + 2 = V.heap.size := by simp [V, D]
  refine ⟨D + 1, [{ target := .collected D, args := #[] }], V, { target := .fn (.func gf) lb, args := #[.func (.yield (D + 1)) #[] #[]] }, V, gf, #[.func (.yield (D + 1)) #[] #[]] ++ lb, V, run_enterLoop_outer _ _ _ _ _, ?_, ?_, ?_, fun _ => h1, ?_⟩
  · simp only [resolve, hg]; simp [go_sem]
  · intro f hf; simp [Target.leads] at hf; subst hf; exact hF
  · simp [invoke, go_sem, eg]
  have low : ∀ {A : World} {row : Option Nat}, (∀ r, row = some r → V.heap.size ≤ r ∧ ∃ o : Obj, A.heap[r]? = some o ∧ o.isWalk = true) → (∀ r, row = some r → D ≤ r ∧ ∃ o : Obj, A.heap[r]? = some o ∧ o.isCells = false) := fun hr r e => by
    obtain ⟨hB, o, ho, hw⟩ := hr r e
    exact ⟨by omega, o, ho, Obj.not_cells_of_walk hw⟩
  refine (hseq (D + 1) (fun pre W => I pre W ∧ W.heap[D + 1]? = some (.loop (rc .ready)) ∧ W.heap[D]? = some (.deferred (some []))) V hbv ?_ ?_ ⟨hI.alloc _ (hI.alloc _ h0), hL, hD⟩).mono ?_
  · exact fun s A B row hs hg' hr => ⟨hI s A B row hs.1 hg' (low hr), (grownBy_keeps hg' (fun r e => (hr r e).2) hs.2.1 rfl).trans hs.2.1, (grownBy_keeps hg' (fun r e => (hr r e).2) hs.2.2 rfl).trans hs.2.2⟩
  · rintro pre x W hG ⟨hi, hl, hk⟩
    refine ⟨fn, _, assign, body, run_yield (P := P) (args := en x) hl (hps x), roundIn_of_wpIn hfn (hassign _ pre x W _ hi fun b U hku hpu hiu hau => ?_)⟩
    have hlU := hku.same _ _ (by omega) hl rfl
    have hkU := hku.same _ _ (Nat.le_refl _) hk rfl
    have hlt := hp_lt hlU
    refine ⟨_, run_beginRound hlU rfl, ?_⟩
    have hl2 : (U.putObj (D + 1) (.loop (rc .busy))).heap[D + 1]? = some (.loop (rc .busy)) := World.putObj_heap_same hlt
    have hk2 : (U.putObj (D + 1) (.loop (rc .busy))).heap[D]? = some (.deferred (some [])) := (World.putObj_heap_other (by omega)).trans hkU
    refine wpIn_mono (hbody (D + 1) pre x b _ (by omega) hG (hI.putObj _ hiu (by omega) hlU rfl) ((hAx x b).putObj (s := ()) _ hau (by omega) hlU rfl)) ?_
    rintro e c Z ⟨rfl, hkz, hpz, hiz⟩
    have hlz := hkz.same _ _ (by omega) hl2 rfl
    have hkk := hkz.same _ _ (Nat.le_refl _) hk2 rfl
    have hr := run_endRound (P := P) none hlz
    refine ⟨_, _, hr, .inl ⟨rfl, ⟨hI.putObj _ hiz (by omega) hlz rfl, World.putObj_heap_same (hp_lt hlz), (World.putObj_heap_other (by omega)).trans hkk⟩, hKt hpu (hKt (hKt (hKb _ _ _ _ (by omega) hlU rfl rfl) hpz) (hKb _ _ _ _ (by omega) hlz rfl rfl))⟩⟩
  · rintro e W ⟨⟨v, rfl⟩, hi, hl, hk⟩
    exact ⟨none, _, run_endLoop (P := P) hl (by simp [rc]), hdone _ _ (Nat.le_refl _) (hI.putObj _ hi (by omega) hl rfl) ((World.putObj_heap_other (by omega)).trans hk)⟩


theorem belowPut8 {n : Nat} (W : World) (l : Nat) (o' : Obj) (hl : n ≤ l) : Below n W (W.putObj l o') := ⟨rfl, rfl, rfl, by simp, fun k hk => World.putObj_heap_other (by omega)⟩
theorem own_walks8 {X Y : World} {row : Option Nat} {base n size : Nat} {e : TypeId} {v : Value} {xs : List Value} (hg : X.grownBy Y row) (hr : ∀ r, row = some r → ∃ o : Obj, X.heap[r]? = some o ∧ o.isCells = false) (h : X.ownsRow base e size v n xs) : Y.ownsRow base e size v n xs := by
  refine ⟨h.1, ?_⟩
  rcases h.2 with hn | ⟨g, cap, cur, rfl, hbg, hgg, rest⟩
  · exact .inl hn
  · exact .inr ⟨g, cap, cur, rfl, hbg, (own_heap g (fun _ : Unit => .cells cur e (0, 0)) (fun _ => rfl)) () X Y row hgg hg hr, rest⟩

def encZ8 (x : Int) : Array Value := #[.int .i64 x]
/-- The numbers come one after another. -/
def Goes8 (zs pre : List Int) (x : Int) : Prop := ∃ j, pre = zs.take j ∧ zs[j]? = some x
theorem take_snoc8 {α : Type} {l : List α} {k : Nat} {x : α} (h : l[k]? = some x) : l.take (k + 1) = l.take k ++ [x] := by rw [List.take_add_one, h]; rfl

set_option maxRecDepth 100000 in
set_option maxHeartbeats 2000000 in
theorem values1_all (n : Nat) (hn : 1 ≤ n) (l Bs n₀ cap : Nat) (a : Option Addr) (zs : List Int) (hl1 : zs.length ≤ 1000) (J : List Int → World → Prop)
    (hY : ∀ pre x W, Goes8 zs pre x → J pre W → YieldAt Fence.wide (n - 1) Try.prog l (encZ8 x) W fun e W' =>
      (e = .returned (.bool true) ∧ J (pre ++ [x]) W' ∧ Below n₀ W W') ∨ (e = .returned (.bool false) ∧ False))
    (W : World) (hBs : W.cell? ⟨Bs, 0, none⟩ = some (.slice a zs.length cap)) (hc : ∀ j x, zs[j]? = some x → ∃ b off, a = some ⟨b, off, none⟩ ∧ b < n₀ ∧ W.cell? ⟨b, off + j, none⟩ = some (.int .i64 x)) (h0 : J [] W) :
    CallsIn Fence.wide n Try.prog 132 #[.func (.yield l) #[] #[], .pointer (some ⟨Bs, 0, none⟩)] W fun e W' => (∃ v, e = .returned v) ∧ J zs W' := by
  refine callsIn_of_wp Try.func132 rfl trivial ?_ rfl
  simp only [Try.ntmps132, List.size_toArray, List.length_cons, List.length_nil, Nat.reduceAdd, Nat.reduceSub, Array.replicate_succ, Array.replicate_zero, List.push_toArray, List.append_toArray, List.nil_append, List.cons_append]
  gi_wp2
  gi_loopw [7] (fun i wr => ∃ j : Nat, i = .int .i64 j ∧ j ≤ zs.length ∧ J (zs.take j) wr ∧ Below n₀ W wr) (fun i _ => zs.length - (intOf i).toNat)
  case atStart => exact ⟨0, rfl, Nat.zero_le _, h0, Below.refl _ _⟩
  case round =>
    obtain ⟨j, rfl, hj, hJs, hnx⟩ := hrel
    by_cases hlt : j < zs.length
    · obtain ⟨x, hx⟩ := get_of_lt hlt
      obtain ⟨b, off, rfl, hb, c0⟩ := hc j x hx
      have d0 := (hnx.cell (p := ⟨b, off + j, none⟩) hb).trans c0
      obtain ⟨fn, tmps, assign, body, hy, hR⟩ := hY _ x wr ⟨j, rfl, hx⟩ hJs
      unfold encZ8 at hy
      have HX := Lib.hid hx
      have HC := Lib.hid hc
      clear hx hc c0
      gi_wp2
      refine hR.mono ?_
      rintro e W3 (⟨rfl, hJ3, hk3⟩ | ⟨_, hJx3⟩)
      · rw [← take_snoc8 HX.out] at hJ3
        have HJ := Lib.hid hJ3
        clear hJ3
        gi_wp2
        go_roundw
        case rel => exact ⟨j + 1, by go_num, by omega, HJ.out, hnx.trans hk3⟩
        case measure => simp [intOf]; omega
      · exact hJx3.elim
    · have ht : zs.take j = zs := List.take_of_length_le (by omega)
      rw [ht] at hJs
      have HJ := Lib.hid hJs
      clear hJs ht hc
      gi_wp2
      go_end0
      exact ⟨⟨_, rfl⟩, HJ.out⟩

theorem values_all (n : Nat) (hn : 1 ≤ n) (Bs n₀ cap : Nat) (a : Option Addr) (zs : List Int) (hl1 : zs.length ≤ 1000) (w : World) (hBn : Bs < w.heap.size) (hn₀ : n₀ ≤ w.heap.size)
    (hBs : w.cell? ⟨Bs, 0, none⟩ = some (.slice a zs.length cap)) (hc : ∀ j x, zs[j]? = some x → ∃ b off, a = some ⟨b, off, none⟩ ∧ b < n₀ ∧ w.cell? ⟨b, off + j, none⟩ = some (.int .i64 x)) :
    YieldsAll8 (Goes8 zs) Fence.wide n Try.prog 132 #[.pointer (some ⟨Bs, 0, none⟩)] encZ8 (Below n₀) zs w := fun l J W hW _ hY h0 => by
  refine values1_all n hn l Bs n₀ cap a zs hl1 J hY W ((hW.cell (p := ⟨Bs, 0, none⟩) (by show Bs < _; omega)).trans hBs) (fun j x hx => ?_) h0
  obtain ⟨b, off, e, hb, c0⟩ := hc j x hx
  exact ⟨b, off, e, hb, (hW.cell (p := ⟨b, _, none⟩) (by show b < _; omega)).trans c0⟩

set_option maxHeartbeats 1000000 in
theorem valuesI_any (a : Option Addr) (len cap : Nat) (w : World) :
    Calls Try.prog 129 #[.slice a len cap] w fun e w' => e = .returned (.func (.func 132) #[] #[.pointer (some ⟨w.heap.size, 0, none⟩)]) ∧ w.alloc (.cells #[.slice a len cap] 23) = w' := by
  go_enter Try.func129, Try.ntmps129
  go_wp2
  go_ret
  exact ⟨rfl, rfl⟩

/-- What AppendSeq has when some numbers have come: the box of what has been put together. -/
structure ApI (w : World) (pre : List Int) (W : World) : Prop where
  box : ∃ v, W.heap[w.heap.size]? = some (.cells #[v] 23 (0, 0)) ∧ W.ownsRow (w.heap.size + 1) 3 1 v pre.length (pre.map (Value.int .i64))
  below : Below w.heap.size w W
theorem apI_own (w : World) (B : Nat) (hB : w.heap.size ≤ B) : OwnFrom B (fun (pre : List Int) W => ApI w pre W) := fun pre X Y row hs hg hr => by
  obtain ⟨v, k1, k2⟩ := hs.box
  have hr2 : ∀ r, row = some r → ∃ o : Obj, X.heap[r]? = some o ∧ o.isCells = false := fun r e => (hr r e).2
  exact ⟨⟨v, (own_heap w.heap.size (fun _ : Unit => .cells #[v] 23 (0, 0)) (fun _ => rfl)) () X Y row k1 hg hr2, own_walks8 hg hr2 k2⟩, hs.below.grown hg hs.below.size (fun k e => Nat.le_trans hB (hr k e).1)⟩

set_option maxRecDepth 100000 in
set_option maxHeartbeats 4000000 in
theorem appendSeq_any (Bs cap : Nat) (a : Option Addr) (zs : List Int) (w : World) (hz : IntsAt w a zs) (hl : zs.length ≤ 1000) (hBs : w.heap[Bs]? = some (.cells #[.slice a zs.length cap] 23 (0, 0))) :
    Calls Try.prog 133 #[.slice none 0 0, .func (.func 132) #[] #[.pointer (some ⟨Bs, 0, none⟩)]] w (GivesInts zs w) := by
  obtain ⟨i0, hi, hz0, hz1, hz2⟩ := info_parts info_int
  refine (callsIn_wide (n := 5)).1 ?_
  refine callsIn_of_wp_marks Try.func133 rfl trivial ?_ rfl
  simp only [Try.ntmps133, List.size_toArray, List.length_cons, List.length_nil, Nat.reduceAdd, Nat.reduceSub, Array.replicate_succ, Array.replicate_zero, List.push_toArray, List.append_toArray, List.nil_append, List.cons_append]
  gi_wp2_with fail
  have hB0 : Below w.heap.size w (w.alloc (.cells #[.slice none 0 0] 23)) := (Below.refl _ _).alloc (Nat.le_refl _) _
  have hI0 : ApI w [] (w.alloc (.cells #[.slice none 0 0] 23)) := ⟨⟨_, hp_new rfl, World.ownsRow_nil _ _ _ _⟩, hB0⟩
  have hbs2 := hp_cell (hp_alloc (o' := .cells #[.slice none 0 0] 23) hBs) (j := 0) (by rfl)
  have hbl := hp_lt hBs
  have hseq := values_all 4 (by omega) Bs w.heap.size cap a zs hl (w.alloc (.cells #[.slice none 0 0] 23)) (by simp; omega) (by simp) hbs2 (fun j x hx => by
    obtain ⟨b, off, y, e1, e2, e3, e4⟩ := hz.at_ (List.getElem?_eq_some_iff.1 hx).1
    rw [hx] at e3
    injection e3 with e3
    subst e3
    exact ⟨b, off, e1, e2, cell_alloc_keep e4⟩)
  have HSEQ := Lib.hid hseq
  have HI0 := Lib.hid hI0
  have HW1 : Hid (w.heap.size + 1 = (w.alloc (.cells #[.slice none 0 0] 23)).heap.size) := Lib.hid (by simp)
  clear hseq hI0 hbs2 hB0 hz hBs hbl
  generalize w.alloc (.cells #[.slice none 0 0] 23) = w4 at *
  gi_wp2_with fail
  refine rangeFunc_all8 (G := Goes8 zs) rfl (by omega) (gf := 132) (lb := #[.pointer (some ⟨Bs, 0, none⟩)]) rfl trivial (enters_of Try.func132 (by kernel_rfl) rfl) HSEQ.out ?kt ?kb (Below.refl _ _) (fun _ => rfl)
    (fun pre W => ApI w pre W) (apI_own w _ (by have := HW1.out; omega)) HI0.out
    (fun x bb _ => bb = { tmps := #[.slice none 0 0, .func (.func 132) #[] #[.pointer (some ⟨Bs, 0, none⟩)], .pointer (some ⟨w.heap.size, 0, none⟩), undef, .slice none 0 0, .int .i64 x, .func (.func 132) #[] #[.pointer (some ⟨Bs, 0, none⟩)], .int .i64 x, undef, undef, undef, undef, undef], defers := [] })
    (fun _ _ _ _ _ _ h _ _ => h)
    ?assign ?body ?done
  case kt => exact fun h k => h.trans k
  case kb => exact fun W l o o' h1 h2 h3 h4 => belowPut8 W l o' (by have := HW1.out; omega)
  case assign =>
    intro l pre x W K' hI hK
    unfold encZ8
    gi_wp2
    exact hK _ _ ((KeepsOthers.refl _).from _) (Below.refl _ _) hI rfl
  case body =>
    rintro l pre x bb W hl ⟨j, hj1, hj2⟩ hI rfl
    have hj : j < zs.length := (List.getElem?_eq_some_iff.1 hj2).1
    have hpl : pre.length ≤ 1000 := by rw [hj1, List.length_take]; omega
    obtain ⟨v, k1, k2⟩ := hI.box
    have hb1 := hI.below
    have x0 := hp_cell k1 (j := 0) (by rfl)
    have f0 := hp_free k1 0
    have hbl := hp_lt k1
    clear hj1 hj2 hj
    gi_wp2_with (first
      | (gi_at_builtin; refine wpListIn_append_own _ rfl _ _ 23 rfl (w.heap.size + 1) 3 i0 (.int .i64 0) 1 8 Try.underlying23 hi hz0 hz1 hz2 rfl (by decide) _ _ _ rfl (k2.alloc _) ⟨W.heap.size, 0, none⟩ 1 1 [.int .i64 x] rfl rfl (cell_one_new _ _ _) (by simp [Value.oneCell']) (by unfold maxLen; omega) (by omega) (by have := hb1.size; simp; omega) ?_; intro v' w3 hown' hg3 hnil3; have hne3 : v.ownBlock ≠ some w.heap.size := (fun e => by have := (k2.lt _ e).1; omega); have hv3 : w3.heap[w.heap.size]? = some (.cells #[v] 23 (0, 0)) := (hg3.block w.heap.size (by simp; omega) (fun e => hne3 e.symm)).trans (hp_alloc k1); have x3 := hp_cell hv3 (j := 0) (by rfl); have f3 := hp_free hv3 0; obtain ⟨va, vc, rfl⟩ := own_slice hown')
      | fail)
    have hrowc : ∀ (j : Nat) (o : Obj), v.ownBlock = some j → (W.alloc (.cells #[.int .i64 x] 3)).heap[j]? = some o → o.isCells = true := fun j o e h => by
      rcases (k2.alloc (.cells #[.int .i64 x] 3)).2 with ⟨rfl, _⟩ | ⟨g, cap', cur, rfl, _, hg, _⟩
      · simp [Value.ownBlock] at e
      · simp only [Value.ownBlock, Option.some.injEq] at e
        subst e
        rw [hg] at h
        injection h with h
        subst h
        rfl
    have hko := ((KeepsOthers.alloc W (.cells #[.int .i64 x] 3)).trans (KeepsOthers.of_grownBy hg3 hrowc)).trans (KeepsOthers.setCell w3 ⟨w.heap.size, 0, none⟩ (.slice va (pre.length + 1) vc))
    have hbw : Below w.heap.size W w3 := ((Below.refl w.heap.size W).alloc hb1.size _).grown hg3 (by have := hb1.size; simp; omega) (fun k e => by have := (k2.lt k e).1; omega)
    refine ⟨hko.from _, hbw.setCell (p := ⟨w.heap.size, 0, none⟩) (Nat.le_refl _) _, ⟨_, hp_put hv3 0 _, ?_⟩, (hb1.trans hbw).setCell (p := ⟨w.heap.size, 0, none⟩) (Nat.le_refl _) _⟩
    have e1 : (pre ++ [x]).length = pre.length + 1 := by simp
    have e2 : (pre ++ [x]).map (Value.int .i64) = pre.map (Value.int .i64) ++ [.int .i64 x] := by simp
    rw [e1, e2]
    exact own_otherK hown' (by omega) 0 _
  case done =>
    intro D W hD hI hK
    obtain ⟨v, k1, k2⟩ := hI.box
    have hb1 := hI.below
    obtain ⟨va, vc, rfl⟩ := own_slice k2
    have x0 := hp_cell k1 (j := 0) (by rfl)
    have hDw := HW1.out
    gi_wp2_with fail
    refine ⟨by simp, .inl ⟨_, _, rfl, run_takeDeferred hK, ?_⟩⟩
    exact ⟨_, results_tmp rfl _ _ _, va, vc, rfl, own_mono (ownsRow_putObj k2 _ hK rfl) (by omega), hb1.trans (belowPut8 W D _ (by omega))⟩

set_option maxHeartbeats 1000000 in
theorem collect_any (Bs cap : Nat) (a : Option Addr) (zs : List Int) (w : World) (hz : IntsAt w a zs) (hl : zs.length ≤ 1000) (hBs : w.heap[Bs]? = some (.cells #[.slice a zs.length cap] 23 (0, 0))) :
    Calls Try.prog 130 #[.func (.func 132) #[] #[.pointer (some ⟨Bs, 0, none⟩)]] w (GivesInts zs w) := by
  have H := Lib.hid (appendSeq_any Bs cap a zs w hz hl hBs)
  clear hz hBs
  go_enter Try.func130, Try.ntmps130
  go_wp2_with fail
  refine H.out.mono ?_
  rintro e w3 h3
  have HG := Lib.hid h3
  obtain ⟨a3, c3, rfl, -, -⟩ := h3
  go_wp2_with fail
  go_ret
  exact HG.out

end Go.Proofs.Ytmigkbimdjiigaa

/- slices.Sort on numbers, slices.Sorted over slices.Values, IsOrder of kit: contracts. -/
set_option linter.unusedVariables false
set_option linter.unusedSimpArgs false
namespace Go.Proofs.Ytmigkbimdjiigaa
open Go.RowKit Tinker Go.Shelf Go.Sort

def ksort_ren : Go.Shelf.Ren := ⟨fun | 125 => 106 | 128 => 123 | 129 => 124 | 189 => 131 | 215 => 115 | 216 => 141 | 257 => 134 | 294 => 135 | 295 => 136 | 296 => 137 | 297 => 138 | 298 => 139 | 299 => 140 | 300 => 142 | 301 => 143 | 328 => 144 | 329 => 145 | 330 => 146 | 331 => 147 | 332 => 148 | 343 => 149 | n => n, fun | 0 => 0 | 3 => 3 | 4 => 4 | 5 => 5 | 9 => 9 | 28 => 23 | 46 => 50 | 51 => 105 | 53 => 107 | 131 => 100 | 182 => 117 | 183 => 118 | 218 => 122 | 222 => 126 | 228 => 128 | 229 => 129 | n => n, fun | n => n⟩
theorem ksort : Go.Proofs.Lays.n189 Try.prog ksort_ren := {
  mixed := by kernel_rfl
  f125 := Try.func106.trans (congrArg some (by kernel_rfl))
  f128 := Try.func123.trans (congrArg some (by kernel_rfl))
  f129 := Try.func124.trans (congrArg some (by kernel_rfl))
  f189 := Try.func131.trans (congrArg some (by kernel_rfl))
  f215 := Try.func115.trans (congrArg some (by kernel_rfl))
  f216 := Try.func141.trans (congrArg some (by kernel_rfl))
  f257 := Try.func134.trans (congrArg some (by kernel_rfl))
  f294 := Try.func135.trans (congrArg some (by kernel_rfl))
  f295 := Try.func136.trans (congrArg some (by kernel_rfl))
  f296 := Try.func137.trans (congrArg some (by kernel_rfl))
  f297 := Try.func138.trans (congrArg some (by kernel_rfl))
  f298 := Try.func139.trans (congrArg some (by kernel_rfl))
  f299 := Try.func140.trans (congrArg some (by kernel_rfl))
  f300 := Try.func142.trans (congrArg some (by kernel_rfl))
  f301 := Try.func143.trans (congrArg some (by kernel_rfl))
  f328 := Try.func144.trans (congrArg some (by kernel_rfl))
  f329 := Try.func145.trans (congrArg some (by kernel_rfl))
  f330 := Try.func146.trans (congrArg some (by kernel_rfl))
  f331 := Try.func147.trans (congrArg some (by kernel_rfl))
  f332 := Try.func148.trans (congrArg some (by kernel_rfl))
  f343 := Try.func149.trans (congrArg some (by kernel_rfl))
  t0 := Try.underlying0
  a0 := Try.isAgg0
  z0 := Try.sizeOf0
  v0 := Try.zeroValue0
  t3 := Try.underlying3
  a3 := Try.isAgg3
  z3 := Try.sizeOf3
  v3 := Try.zeroValue3
  t4 := Try.underlying4
  a4 := Try.isAgg4
  z4 := Try.sizeOf4
  v4 := Try.zeroValue4
  t5 := Try.underlying5
  a5 := Try.isAgg5
  z5 := Try.sizeOf5
  v5 := Try.zeroValue5
  t9 := Try.underlying9
  a9 := Try.isAgg9
  z9 := Try.sizeOf9
  v9 := Try.zeroValue9
  t28 := Try.underlying23
  a28 := Try.isAgg23
  z28 := Try.sizeOf23
  v28 := Try.zeroValue23
  t46 := Try.underlying50
  a46 := Try.isAgg50
  z46 := Try.sizeOf50
  v46 := Try.zeroValue50
  t51 := Try.underlying105
  a51 := Try.isAgg105
  z51 := Try.sizeOf105
  v51 := Try.zeroValue105
  t53 := Try.underlying107
  a53 := Try.isAgg107
  z53 := Try.sizeOf107
  v53 := Try.zeroValue107
  t131 := Try.underlying100
  a131 := Try.isAgg100
  z131 := Try.sizeOf100
  v131 := Try.zeroValue100
  t182 := Try.underlying117
  a182 := Try.isAgg117
  z182 := Try.sizeOf117
  v182 := Try.zeroValue117
  t183 := Try.underlying118
  a183 := Try.isAgg118
  z183 := Try.sizeOf118
  v183 := Try.zeroValue118
  t218 := Try.underlying122
  a218 := Try.isAgg122
  z218 := Try.sizeOf122
  v218 := Try.zeroValue122
  t222 := Try.underlying126
  a222 := Try.isAgg126
  z222 := Try.sizeOf126
  v222 := Try.zeroValue126
  t228 := Try.underlying128
  a228 := Try.isAgg128
  z228 := Try.sizeOf128
  v228 := Try.zeroValue128
  t229 := Try.underlying129
  a229 := Try.isAgg129
  z229 := Try.sizeOf129
  v229 := Try.zeroValue129 }

theorem heap_sorted8 {w : World} {g n : Nat} {os : Array Obj} {cur : Array Value} {e : TypeId} {fr : Nat × Nat} (d : Array Int) (hb : w.heap[g]? = some (.cells cur e fr)) :
    (grow (putRow (Value.int .i64) (Sort.ahead w n) g 0 d) os).heap[g]? = some (.cells (putCells (Value.int .i64) 0 d cur) e fr) := by
  have hg : g < w.heap.size := (Array.getElem?_eq_some_iff.1 hb).1
  rw [heap_grow_old _ _ (by simpa using hg)]
  simp [putRow, mapBlock, Sort.ahead, Array.getElem?_modify, hb, onCells]
theorem grownBy_sorted8 {w : World} {g n : Nat} {os : Array Obj} (d : Array Int) : w.grownBy (grow (putRow (Value.int .i64) (Sort.ahead w n) g 0 d) os) (some g) := by
  refine ⟨rfl, rfl, rfl, by simp, fun k hk hne => ?_⟩
  rw [heap_grow_old _ _ (by simpa using hk)]
  have : g ≠ k := fun e => hne (by rw [e])
  simp [putRow, mapBlock, Sort.ahead, Array.getElem?_modify, this]
theorem take_putCells8 (cur : Array Value) (ts : List Int) (h : ts.length ≤ cur.size) : (putCells (Value.int .i64) 0 ts.toArray cur).toList.take ts.length = ts.map (Value.int .i64) := by
  apply List.ext_getElem?
  intro j
  by_cases hj : j < ts.length
  · rw [List.getElem?_take_of_lt hj, Array.getElem?_toList]
    simp [putCells, hj, show j < cur.size by omega]
  · rw [List.getElem?_take_eq_none (by omega), List.getElem?_eq_none (by simp; omega)]
theorem ownsRow_sorted8 {w : World} {base g cap n : Nat} {e : TypeId} {os : Array Obj} {cur : Array Value} {ss ts : List Int} (hl : ts.length = ss.length) (hbase : base ≤ g) (hb : w.heap[g]? = some (.cells cur e (0, 0)))
    (h1 : ss.length ≤ cap) (h2 : cap ≤ maxLen) (h3 : cur.size = cap * 1) :
    (grow (putRow (Value.int .i64) (Sort.ahead w n) g 0 ts.toArray) os).ownsRow base e 1 (.slice (some ⟨g, 0, none⟩) ss.length cap) ss.length (ts.map (Value.int .i64)) :=
  ⟨by simp [hl], .inr ⟨g, cap, _, rfl, hbase, heap_sorted8 _ hb, h1, h2, by simp [putCells, h3], by rw [Nat.mul_one, ← hl]; exact take_putCells8 cur ts (by omega)⟩⟩
theorem holds_of_block8 {w : World} {g : Nat} {cur : Array Value} {e : TypeId} {ss : List Int} (hb : w.heap[g]? = some (.cells cur e (0, 0))) (ht : cur.toList.take ss.length = ss.map (Value.int .i64)) : Holds (Value.int .i64) w g 0 ss.toArray := by
  intro j hj
  have hj' : j < ss.length := by simpa using hj
  refine ⟨?_, by simp [World.frozen?, hb]⟩
  have h1 : (cur.toList.take ss.length)[j]? = (ss.map (Value.int .i64))[j]? := by rw [ht]
  rw [List.getElem?_take_of_lt hj'] at h1
  simp only [World.cell?, hb, Nat.zero_add]
  simp only [Option.isSome_none, Bool.false_eq_true, if_false]
  rw [← Array.getElem?_toList, h1]
  simp [hj']

set_option maxRecDepth 100000 in
set_option maxHeartbeats 1000000 in
theorem insNil_any (p : Option Addr) (cap : Nat) (w : World) : Calls Try.prog 135 #[.slice p 0 cap, .int .i64 0, .int .i64 0] w fun e w' => e = .returned (.tuple #[]) ∧ w = w' := by
  go_enter Try.func135, Try.ntmps135
  go_wp2_with fail
  go_loop [6] (fun s6 => s6 = .int .i64 1) (fun _ => 0)
  case atStart => exact rfl
  case round =>
    subst hrel
    go_wp2_with fail
    go_end0
    exact ⟨rfl, rfl⟩
set_option maxRecDepth 100000 in
set_option maxHeartbeats 1000000 in
theorem pdqNil_any (p : Option Addr) (cap : Nat) (w : World) : Calls Try.prog 134 #[.slice p 0 cap, .int .i64 0, .int .i64 0, .int .i64 0] w fun e w' => e = .returned (.tuple #[]) ∧ w = w' := by
  have HI := Lib.hid (insNil_any p cap w)
  go_enter Try.func134, Try.ntmps134
  go_wp2_with fail
  go_loop [1, 2] (fun s1 s2 => s1 = .int .i64 0 ∧ s2 = .int .i64 0) (fun _ _ => 0)
  case atStart => exact ⟨rfl, rfl⟩
  case round =>
    obtain ⟨rfl, rfl⟩ := hrel
    go_wp2_with fail
    refine HI.out.mono ?_
    rintro e w' ⟨rfl, rfl⟩
    go_wp2_with fail
    exact bodyPost_ret (results_none rfl _ _ _) rfl ⟨rfl, rfl⟩
set_option maxRecDepth 100000 in
set_option maxHeartbeats 1000000 in
theorem sortNil_any (p : Option Addr) (cap : Nat) (w : World) : Calls Try.prog 131 #[.slice p 0 cap] w fun e w' => e = .returned (.tuple #[]) ∧ w = w' := by
  have HI := Lib.hid (pdqNil_any p cap w)
  have HL := Lib.hid (kLen_any 0 (by decide) w)
  have e0 : ((Lib.bitLen 0 : Nat) : Int) = 0 := by decide
  have e1 : ((0 : Nat) : Int) = 0 := rfl
  rw [e0, e1] at HL
  go_enter Try.func131, Try.ntmps131
  go_wp2_with fail
  refine HL.out.mono ?_
  rintro e w' ⟨rfl, rfl⟩
  go_wp2_with fail
  refine HI.out.mono ?_
  rintro e w' ⟨rfl, rfl⟩
  go_wp2_with fail
  go_end0
  exact ⟨rfl, rfl⟩

/-- A row of the call's own is sorted in its place. -/
theorem sortOwn_any (v : Value) (zs : List Int) (w : World) (base : Nat) (hown : w.ownsRow base 3 1 v zs.length (zs.map (Value.int .i64))) (hm : zs.length ≤ 1000) :
    Calls Try.prog 131 #[v] w fun e w' => e = .returned (.tuple #[]) ∧ w'.ownsRow base 3 1 v zs.length ((zs.mergeSort fun x y => decide (x ≤ y)).map (Value.int .i64)) ∧ Below base w w' := by
  rcases hown.2 with ⟨rfl, hn⟩ | ⟨g, cap, cur, rfl, hbase, hb, h1, h2, h3, h4⟩
  · have hz : zs = [] := List.eq_nil_of_length_eq_zero hn
    subst hz
    refine (sortNil_any none 0 w).mono ?_
    rintro e w' ⟨rfl, rfl⟩
    exact ⟨rfl, by rw [List.mergeSort_nil]; exact World.ownsRow_nil _ _ _ _, Below.refl _ _⟩
  · have h := Any.slices_Sort_int ksort g 0 cap zs w (holds_of_block8 hb (by simpa using h4)) (Array.getElem?_eq_some_iff.1 hb).1 (by omega)
    refine h.mono ?_
    rintro e w' ⟨rfl, n, os, rfl⟩
    have hl : (zs.mergeSort fun x y => decide (x ≤ y)).length = zs.length := List.length_mergeSort _
    have hg := grownBy_sorted8 (w := w) (g := g) (n := n) (os := os) (zs.mergeSort fun x y => decide (x ≤ y)).toArray
    have hgl := (Array.getElem?_eq_some_iff.1 hb).1
    exact ⟨rfl, ownsRow_sorted8 hl hbase hb h1 h2 h3, (Below.refl base w).grown hg (by omega) (fun k e => by cases e; exact hbase)⟩

set_option maxRecDepth 100000 in
set_option maxHeartbeats 1000000 in
theorem sortedI_any (Bs cap : Nat) (a : Option Addr) (zs : List Int) (w : World) (hz : IntsAt w a zs) (hl : zs.length ≤ 1000) (hBs : w.heap[Bs]? = some (.cells #[.slice a zs.length cap] 23 (0, 0))) :
    Calls Try.prog 128 #[.func (.func 132) #[] #[.pointer (some ⟨Bs, 0, none⟩)]] w (GivesInts (zs.mergeSort fun x y => decide (x ≤ y)) w) := by
  have H := Lib.hid (collect_any Bs cap a zs w hz hl hBs)
  have HL := Lib.hid (List.length_mergeSort (le := fun x y => decide (x ≤ y)) zs)
  clear hz hBs
  go_enter Try.func128, Try.ntmps128
  go_wp2_with fail
  refine H.out.mono ?_
  rintro e w3 ⟨a3, c3, rfl, ho, hB⟩
  have HS := Lib.hid (sortOwn_any _ zs w3 w.heap.size ho hl)
  have HB := Lib.hid hB
  clear ho hB
  go_wp2_with fail
  refine HS.out.mono ?_
  rintro e w4 ⟨rfl, ho, hB⟩
  have HO := Lib.hid ho
  have HB4 := Lib.hid (HB.out.trans hB)
  clear ho hB
  go_wp2_with fail
  go_ret
  exact ⟨a3, c3, by rw [HL.out]; rfl, by rw [HL.out]; exact HO.out, HB4.out⟩

set_option maxRecDepth 100000 in
set_option maxHeartbeats 1000000 in
theorem kIsOrder_any (a : Option Addr) (cap n : Nat) (o : List Int) (w : World) (ho : IntsAt w a o) (hl : o.length ≤ 50) (hn : n ≤ 50) :
    Calls Try.prog 118 #[.slice a o.length cap, .int .i64 n] w fun e w' => e = .returned (.bool (ordB o n)) ∧ Below w.heap.size w w' := by
  have HB := Lib.hid (areBetween_any a cap o 0 ((n : Int) - 1) w ho (by omega))
  have HV := Lib.hid (valuesI_any a o.length cap w)
  have hal : Below w.heap.size w (w.alloc (.cells #[.slice a o.length cap] 23)) := (Below.refl _ _).alloc (Nat.le_refl _) _
  have HA := Lib.hid hal
  have HS := Lib.hid (sortedI_any w.heap.size cap a o (w.alloc (.cells #[.slice a o.length cap] 23)) (ho.below hal (Nat.le_refl _)) (by omega) (hp_new rfl))
  have HK := Lib.hid (fun a' c' (W : World) (hz : IntsAt W a' (o.mergeSort fun x y => decide (x ≤ y))) => kIsSet_any a' c' (o.mergeSort fun x y => decide (x ≤ y)) W hz (by rw [List.length_mergeSort]; omega))
  have hw1 : IntKind.i64.wrap ((n : Int) - 1) = (n : Int) - 1 := IntWalk.i64_in _ (by omega)
  clear hal ho
  by_cases h1 : o.length = n
  · cases h2 : allBtw o 0 ((n : Int) - 1)
    · have HR := Lib.hid (show ordB o n = false by
        cases h3 : ordB o n
        · rfl
        · exfalso
          have := (ord_btw h3).2
          rw [show allBtw o 0 ((n : Int) - 1) = true from List.all_eq_true.2 fun x hx => btw_true.2 (by have := this x hx; omega)] at h2
          cases h2)
      have hd : ((o.length : Int) == (n : Int)) = true := by rw [beq_iff_eq]; omega
      rw [h2] at HB
      rw [HR.out]
      clear h1 h2
      go_enter Try.func118, Try.ntmps118
      go_wp2_with fail
      refine HB.out.mono ?_
      rintro e w' ⟨rfl, rfl⟩
      go_wp2_with fail
      go_ret
      exact ⟨rfl, Below.refl _ _⟩
    · have HR := Lib.hid (ord_sorted (o := o) (n := n) h1 (fun x hx => by have := btw_true.1 (List.all_eq_true.1 h2 x hx); omega))
      have hd : ((o.length : Int) == (n : Int)) = true := by rw [beq_iff_eq]; omega
      rw [h2] at HB
      rw [← HR.out]
      generalize (o.mergeSort fun x y => decide (x ≤ y)) = sp at *
      clear h1 h2 HR
      go_enter Try.func118, Try.ntmps118
      go_wp2_with fail
      refine HB.out.mono ?_
      rintro e w' ⟨rfl, rfl⟩
      go_wp2_with fail
      refine HV.out.mono ?_
      rintro e w' ⟨rfl, rfl⟩
      go_wp2_with fail
      refine HS.out.mono ?_
      rintro e w3 ⟨a3, c3, rfl, ho3, hB3⟩
      have HI3 := Lib.hid (ints_of_own ho3).1
      have HB3 := Lib.hid (HA.out.trans (hB3.mono HA.out.size))
      clear ho3 hB3
      go_wp2_with fail
      refine (HK.out _ _ _ HI3.out).mono ?_
      rintro e w4 ⟨rfl, hB4⟩
      have HB4 := Lib.hid (HB3.out.trans (hB4.mono HB3.out.size))
      clear hB4
      go_wp2_with fail
      go_ret
      exact ⟨rfl, HB4.out⟩
  · have HR := Lib.hid (show ordB o n = false by unfold ordB; rw [show (o.length == n) = false by simpa using h1, Bool.false_and])
    have hd : ((o.length : Int) == (n : Int)) = false := by rw [beq_eq_false_iff_ne]; omega
    rw [HR.out]
    clear h1
    go_enter Try.func118, Try.ntmps118
    go_wp2_with fail
    go_ret
    exact ⟨rfl, Below.refl _ _⟩

end Go.Proofs.Ytmigkbimdjiigaa
