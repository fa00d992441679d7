/- Several texts in one. -/
import Derived.RangeFuncNested
import Derived.RangeFuncBound
import Derived.RangeFuncCalls
import Derived.RangeFuncLeaves
import Derived.Shelf.Abstract
import Derived.Shelf.RegionOpen
import Derived.OwnWalkIn
import Derived.TacticsInMore
import Derived.LoopNIn
import Derived.LoopIn
import Derived.Test.YtmpgaccpdglhkaaConB
import Derived.Test.YtmpgaccpdglhkaaStC
import Derived.Deep.MidRow
import Derived.BigQuiet
import Derived.Deep.QuietTactic
/- A range over a function whose iterator writes cells of its own between two rounds. -/
set_option linter.unusedVariables false
set_option linter.unusedSimpArgs false
namespace Go.Proofs.Ytmpgaccpdglhkaa
open Go.RowKit Go.Shelf Tinker

/-- All that there is but the blocks X is as it was. -/
structure KX (X : List Nat) (A A' : World) : Prop where
  os : A'.os = A.os
  tape : A'.tape = A.tape
  output : A'.output = A.output
  size : A.heap.size ≤ A'.heap.size
  same : ∀ k, k < A.heap.size → k ∉ X → A'.heap[k]? = A.heap[k]?
theorem KX.refl (X : List Nat) (A : World) : KX X A A := ⟨rfl, rfl, rfl, Nat.le_refl _, fun _ _ _ => rfl⟩
theorem KX.trans {X : List Nat} {A B C : World} (h : KX X A B) (k : KX X B C) : KX X A C :=
  ⟨k.os.trans h.os, k.tape.trans h.tape, k.output.trans h.output, Nat.le_trans h.size k.size, fun i hi hX => (k.same i (Nat.lt_of_lt_of_le hi h.size) hX).trans (h.same i hi hX)⟩
theorem KX.of_below {X : List Nat} {A B : World} (h : Below A.heap.size A B) : KX X A B := ⟨h.os, h.tape, h.output, h.size, fun k hk _ => h.block k hk⟩
theorem KX.below {X : List Nat} {A B : World} (h : KX X A B) {n : Nat} (hn : n ≤ A.heap.size) (hX : ∀ x ∈ X, n ≤ x) : Below n A B :=
  ⟨h.os, h.tape, h.output, h.size, fun k hk => h.same k (by omega) (fun hm => by have := hX k hm; omega)⟩
theorem KX.heap {X : List Nat} {A B : World} (h : KX X A B) {k : Nat} {o : Obj} (hk : A.heap[k]? = some o) (hX : k ∉ X) : B.heap[k]? = some o := (h.same k (hp_lt hk) hX).trans hk
theorem KX.setCell {X : List Nat} (A : World) {b : Nat} (hb : b ∈ X) (j : Nat) (v : Value) : KX X A (A.setCell ⟨b, j, none⟩ v) := by
  have h := (Below.refl 0 A).setCell (p := ⟨b, j, none⟩) (Nat.zero_le _) v
  exact ⟨h.os, h.tape, h.output, h.size, fun k _ hX => Below.heap_setCell A ⟨b, j, none⟩ v k (fun e => hX (by rw [e]; exact hb))⟩
theorem below_putObj (n : Nat) (A : World) {l : Nat} (hl : n ≤ l) (o : Obj) : Below n A (A.putObj l o) := ⟨rfl, rfl, rfl, by simp, fun k hk => World.putObj_heap_other (by omega)⟩

variable {P : Program} {n : Nat}

/-- What an iterator does that goes through rs, and writes nothing but what it has laid itself. -/
def IterOf {α : Type} (P : Program) (n : Nat) (g : Nat) (lb : Array Value) (encs : α → Array Value) (X : List Nat) (rs : List α) (w0 : World) : Prop :=
  ∀ (l : Nat) (J Jx : List α → World → Prop) (W : World), Below w0.heap.size w0 W →
    (∀ pre A B, J pre A → Below W.heap.size A B → J pre B) →
    (∀ pre x A, J pre A → pre.length < rs.length → YieldAt Fence.wide (n - 1) P l (encs x) A fun e A' =>
      (e = .returned (.bool true) ∧ J (pre ++ [x]) A' ∧ KX X A A') ∨ (e = .returned (.bool false) ∧ Jx (pre ++ [x]) A')) →
    J [] W →
    CallsIn Fence.wide n P g (#[.func (.yield l) #[] #[]] ++ lb) W fun e W' => (∃ v, e = .returned v) ∧ (J rs W' ∨ ∃ pre, pre <+: rs ∧ Jx pre W')

/-- How a round may be left. -/
def rngPost {α : Type} (X : List Nat) (I Ix : List α → World → Prop) (xs : List α) (A : World) : Exit → Act → World → Prop
  | .normal, _, A' => KX X A A' ∧ I xs A'
  | .ret, _, A' => KX X A A' ∧ Ix xs A'
  | _, _, _ => False

/-- The statement, from its iterator and one round. D is the block of the deferred calls, D + 1 that of the loop. -/
theorem rng_law {α : Type} {g : Operand} {ps : Array Tmp} {assign body : Code} {Q : Exit → Act → World → Prop} {a : Act} {w : World} (h1 : 1 ≤ n) {gf : Nat} {lb : Array Value}
    (hg : a.eval g = .func (.func gf) #[] lb) (eg : ∀ args w, (callFunc gf args).run P w = .ok (.enter gf args) w) {encs : α → Array Value} (X : List Nat) (rs : List α)
    (hseq : IterOf P (n - 1) gf lb encs X rs w) (hps : ∀ x, (encs x).size = ps.size) (hX : ∀ x ∈ X, x < w.heap.size)
    (I Ix : List α → World → Prop) (hI : ∀ pre A A', I pre A → Below w.heap.size A A' → I pre A') (hIx : ∀ pre A r o, Ix pre A → A.heap[w.heap.size + 1]? = some (.loop r) → Ix pre (A.putObj (w.heap.size + 1) o)) (h0 : I [] w)
    (hround : ∀ (pre : List α) (x : α) (A : World), I pre A → w.heap.size + 1 < A.heap.size → pre.length < rs.length →
      assign.wpIn (Fence.wide.inRound (w.heap.size + 1)) (n - 1 - 1) P (Exit.then (fun a' A1 => Below A.heap.size A A1 ∧ ∀ A2, Below (w.heap.size + 1) A1 A2 → A2.heap.size = A1.heap.size → (∀ k, k ≠ w.heap.size + 1 → A2.heap[k]? = A1.heap[k]?) →
        body.wpIn (Fence.wide.inRound (w.heap.size + 1)) (n - 1 - 1) P (rngPost X I Ix (pre ++ [x]) A2) a' A2) (fun _ _ _ => False))
        { tmps := (ps.zip (encs x)).foldl (fun t (p, v) => t.setIfInBounds p v) a.tmps, defers := [] } A)
    (hdone : ∀ W, I rs W → W.heap[w.heap.size]? = some (.deferred (some [])) → Q .normal { a with defers := { target := .collected w.heap.size, args := #[] } :: a.defers } W)
    (hstop : ∀ pre W, pre <+: rs → Ix pre W → W.heap[w.heap.size]? = some (.deferred (some [])) → Code.ret.wpIn Fence.wide n P Q { a with defers := { target := .collected w.heap.size, args := #[] } :: a.defers } W) :
    (Code.rangeFunc g ps assign body).wpIn Fence.wide n P Q a w := by
  refine wpIn_rangeFunc fun fn hfn => ?_
  let L : LoopState → Option Code → Obj := fun st pe => .loop { state := st, pending := pe, fn, tmps := a.tmps, params := ps, assign, body, defers := w.heap.size }
  let W1 := (w.alloc (.deferred (some []))).alloc (L .ready none)
  have e1 : W1.heap[w.heap.size + 1]? = some (L .ready none) := by
    have := World.alloc_heap_new (w.alloc (.deferred (some []))) (L .ready none)
    rwa [World.size_alloc] at this
  have e0 : W1.heap[w.heap.size]? = some (.deferred (some [])) := hp_alloc (hp_new rfl)
  have hsz : W1.heap.size = w.heap.size + 2 := by simp [W1]
  have hbel : Below w.heap.size w W1 := ((Below.refl _ _).alloc (Nat.le_refl _) _).alloc (by simp) _
  have hXn : ∀ k, w.heap.size ≤ k → k ∉ X := fun k hk hm => by have := hX k hm; omega
  have hres : (resolve a.eval (rangeCall g (w.heap.size + 1)) 0).run P W1 = .ok { target := .fn (.func gf) lb, args := #[.func (.yield (w.heap.size + 1)) #[] #[]] } W1 := by
    simp only [resolve, hg]
    simp [go_sem]
  refine ⟨w.heap.size + 1, _, W1, _, W1, gf, _, W1, run_enterLoop_outer _ _ _ _ _, hres, fun f' _ => trivial, by simp [invoke, go_sem, eg]; rfl, fun _ => h1, ?_⟩
  let J : List α → World → Prop := fun pre A => I pre A ∧ A.heap[w.heap.size + 1]? = some (L .ready none) ∧ A.heap[w.heap.size]? = some (.deferred (some []))
  let Jx : List α → World → Prop := fun pre A => Ix pre A ∧ A.heap[w.heap.size + 1]? = some (L .done (some .ret)) ∧ A.heap[w.heap.size]? = some (.deferred (some []))
  refine (hseq (w.heap.size + 1) J Jx W1 hbel ?_ ?_ ⟨hI _ _ _ h0 hbel, e1, e0⟩).mono ?_
  · rintro pre A B ⟨j1, j2, j3⟩ hAB
    exact ⟨hI _ _ _ j1 (hAB.mono (by omega)), hp_below j2 hAB (by omega), hp_below j3 hAB (by omega)⟩
  · rintro pre x A ⟨j1, j2, j3⟩ hlen
    have hy := run_yield (P := P) (args := encs x) j2 (by show _ = ps.size; exact hps x)
    refine ⟨fn, _, assign, body, hy, roundIn_of_wpIn hfn ?_⟩
    refine wpIn_mono (hround pre x A j1 (hp_lt j2) hlen) ?_
    rintro e a' A1 hp
    cases e with
    | normal =>
      obtain ⟨hA1, hbody⟩ := hp
      have k2 := hp_below j2 hA1 (hp_lt j2)
      have k3 := hp_below j3 hA1 (hp_lt j3)
      have hl := hp_lt k2
      refine ⟨_, run_beginRound k2 rfl, ?_⟩
      refine wpIn_mono (hbody _ (below_putObj _ _ (Nat.le_refl _) _) (by simp) (fun k hk => World.putObj_heap_other hk)) ?_
      rintro e3 a3 A3 hp3
      have hback : ∀ jump, KX X (A1.putObj (w.heap.size + 1) (L .busy none)) A3 → A3.heap[w.heap.size + 1]? = some (L .busy none) ∧ A3.heap[w.heap.size]? = some (.deferred (some [])) ∧ (Instr.endRound (w.heap.size + 1) jump).run P A3 = .ok (.bool jump.isNone) (A3.putObj (w.heap.size + 1) (L (if jump.isNone then .ready else .done) jump)) := fun jump hk => by
        have m2 := hk.heap (World.putObj_heap_same hl) (hXn _ (by omega))
        have m3 := hk.heap ((World.putObj_heap_other (by omega)).trans k3) (hXn _ (Nat.le_refl _))
        exact ⟨m2, m3, run_endRound (P := P) jump m2⟩
      cases e3 with
      | normal =>
        obtain ⟨hk, hi⟩ := hp3
        obtain ⟨m2, m3, hr⟩ := hback none hk
        refine ⟨_, _, hr, .inl ⟨rfl, ⟨hI _ _ _ hi (below_putObj _ _ (by omega) _), World.putObj_heap_same (hp_lt m2), (World.putObj_heap_other (by omega)).trans m3⟩, ?_⟩⟩
        have hsize : A.heap.size ≤ A3.heap.size := Nat.le_trans hA1.size (by have := hk.size; simpa using this)
        refine ⟨?_, ?_, ?_, by simpa using hsize, ?_⟩
        · exact hk.os.trans hA1.os
        · exact hk.tape.trans hA1.tape
        · exact hk.output.trans hA1.output
        · intro k hkl hkX
          by_cases he : k = w.heap.size + 1
          · subst he
            rw [World.putObj_heap_same (hp_lt m2), j2]; rfl
          · rw [World.putObj_heap_other he]
            have h1' := hk.same k (by simp; exact Nat.lt_of_lt_of_le hkl hA1.size) hkX
            rw [h1', World.putObj_heap_other he]
            exact hA1.block k hkl
      | ret =>
        obtain ⟨hk, hi⟩ := hp3
        obtain ⟨m2, m3, hr⟩ := hback (some .ret) hk
        exact ⟨_, _, hr, .inr ⟨rfl, hIx _ _ _ _ hi m2, World.putObj_heap_same (hp_lt m2), (World.putObj_heap_other (by omega)).trans m3⟩⟩
      | exit id => exact hp3.elim
      | goto t => exact hp3.elim
      | panic ch => exact hp3.elim
      | outgrown => exact hp3.elim
    | ret => exact hp.elim
    | exit id => exact hp.elim
    | goto t => exact hp.elim
    | panic ch => exact hp.elim
    | outgrown => exact hp.elim
  · rintro e W2 ⟨⟨v, rfl⟩, hfin⟩
    rcases hfin with ⟨j1, j2, j3⟩ | ⟨pre, hpre, j1, j2, j3⟩
    · exact ⟨none, _, run_endLoop (P := P) j2 (by simp), hdone _ (hI _ _ _ j1 (below_putObj _ _ (by omega) _)) ((World.putObj_heap_other (by omega)).trans j3)⟩
    · exact ⟨some .ret, _, run_endLoop (P := P) j2 (by simp), hstop pre _ hpre (hIx _ _ _ _ j1 j2) ((World.putObj_heap_other (by omega)).trans j3)⟩

end Go.Proofs.Ytmpgaccpdglhkaa

/- The iterator of the states of a contract's box. -/
set_option linter.unusedVariables false
set_option linter.unusedSimpArgs false
namespace Go.Proofs.Ytmpgaccpdglhkaa
open Go.RowKit Go.Shelf Tinker
attribute [local go_sem] Oper.semAt_some

section
variable {P : Program} {Fn : Fence} {n : Nat}
/-- A whole array read out of the middle of a block, inside a fence. -/
theorem wpListIn_load_mid {ops : Array Oper} {rest : List Oper} {o : Oper} {a : Act} {w : World} {Q : Exit → Act → World → Prop} (hgd : o.guard = none) (ty : TypeId) (x : Operand) (ho : o.op = .load ty x)
    (b f : Nat) (hx : a.eval x = .pointer (some ⟨b, f, none⟩)) (cs : List Value) (d : TypeDesc) (hc : w.rangeAt b f cs) (hu : P.underlying ty = some d) (hd : d.isRow = true) (hi : (P.info? ty).map (·.size) = some cs.length)
    (h : wpListIn Fn n P ops Q rest (a.put o.dst (.agg cs.toArray)) w) : wpListIn Fn n P ops Q (o :: rest) a w := by
  refine wpListIn_plain hgd fun K hK' => ?_
  unfold Oper.wpIn
  refine ⟨?_, ?_⟩
  · simp [Oper.about, ho]
  · rw [Oper.semAt_plain _ _ _ (by rw [ho]; intro c hc'; cases hc')]
    simp only [execOp, ho, hx, Instr.loadAt, Instr.sureAddr, Sem.run_bind, Sem.run_pure, Result.andThen_ok, run_loadVar_mid w b f ty cs d hc hu hd hi]
    exact hK' _ _ h
end

/-- A state of a box. -/
abbrev St (lo hi : List Int) := { s : List Int // inBx lo hi 4 s }
def encSt (lo hi : List Int) (x : St lo hi) : Array Value := #[.agg (iv x.1)]
def stRs (lo hi : List Int) : List (St lo hi) := (allS lo hi).attach.map (fun y => ⟨y.1, exTo_in lo hi 4 y.1 y.2⟩)
theorem stRs_map (lo hi : List Int) : (stRs lo hi).map Subtype.val = allS lo hi := by
  unfold stRs
  rw [List.map_map]
  exact List.attach_map_subtype_val _
theorem stRs_length (lo hi : List Int) : (stRs lo hi).length = (allS lo hi).length := by simp [stRs]
theorem stRs_get {lo hi : List Int} {j : Nat} {x : St lo hi} (h : (stRs lo hi)[j]? = some x) : (allS lo hi)[j]? = some x.1 := by
  rw [← stRs_map, List.getElem?_map, h]; rfl
theorem stRs_of {lo hi : List Int} {j : Nat} {s : List Int} (h : (allS lo hi)[j]? = some s) : ∃ x, (stRs lo hi)[j]? = some x ∧ x.1 = s := by
  have hl : j < (stRs lo hi).length := by rw [stRs_length]; exact (List.getElem?_eq_some_iff.1 h).1
  obtain ⟨x, hx⟩ := get_of_lt hl
  have := stRs_get hx
  rw [h] at this
  injection this with e
  exact ⟨x, hx, e.symm⟩

/-- The numbers of a block. -/
def rdB (W : World) (I : Nat) : List Int := match W.heap[I]? with
  | some (.cells cs _ _) => cs.toList.map intOf
  | _ => []
theorem rdB_iv {W : World} {I : Nat} {s : List Int} {t : TypeId} (h : W.heap[I]? = some (.cells (iv s) t (0, 0))) : rdB W I = s := by
  unfold rdB
  rw [h]
  simp only [iv, List.map_map]
  conv => rhs; rw [← List.map_id s]
  exact List.map_congr_left fun x _ => rfl
/-- How many states are left. -/
def remF (lo hi : List Int) : Nat → List Int → Nat
  | 0, _ => 0
  | f + 1, s => match suc lo hi 4 s with
    | none => 0
    | some t => remF lo hi f t + 1
theorem remF_at {lo hi : List Int} {L : List (List Int)} (h : chn (suc lo hi 4) L none) : ∀ (m j : Nat) (s : List Int), L[j]? = some s → L.length = j + 1 + m → ∀ f, m ≤ f → remF lo hi f s = m
  | 0, j, s, hs, hl, f, _ => by
    have := chn_get h hs
    rw [if_neg (by omega)] at this
    cases f with
    | zero => rfl
    | succ f => rw [remF, this]
  | m + 1, j, s, hs, hl, f, hf => by
    have hc := chn_get h hs
    rw [if_pos (by omega)] at hc
    obtain ⟨t, ht⟩ := get_of_lt (show j + 1 < L.length by omega)
    rw [ht] at hc
    match f, hf with
    | f + 1, hf =>
      rw [remF, hc]
      simp only
      rw [remF_at h m (j + 1) t ht (by omega) f (by omega)]

/-- What is known of a contract that is right. -/
structure OkC (lo hi : List Int) : Prop where
  l4 : lo.length = 4
  h4 : hi.length = 4
  le : ∀ j, j < 4 → lo.getD j 0 ≤ hi.getD j 0
  lb : ∀ n ∈ lo, -999 ≤ n ∧ n ≤ 999
  hb : ∀ n ∈ hi, -999 ≤ n ∧ n ≤ 999

theorem run_arr (lb lf ca : Nat) (w : World) : (Instr.arrayAt 103 (.slice (some ⟨lb, lf, none⟩) 4 ca)).run Try.prog w = .ok (.pointer (some ⟨lb, lf, none⟩)) w := by kernel_rfl
theorem info_stt : (Try.prog.info? 103).map (·.size) = some 4 := by kernel_rfl
theorem rangeAt_ints {w : World} {b off : Nat} {s : List Int} (h : ∀ j n, s[j]? = some n → w.cell? ⟨b, off + j, none⟩ = some (.int .i64 n)) : w.rangeAt b off (s.map (Value.int .i64)) := fun j v hv => by
  rw [List.getElem?_map] at hv
  obtain ⟨n, hn, rfl⟩ := Option.map_eq_some_iff.1 hv
  exact h j n hn

set_option maxRecDepth 100000 in
set_option maxHeartbeats 2000000 in
theorem states_iter (n : Nat) (hn : 1 ≤ n) (Bc lb lf hb hf ca cb : Nat) (lo hi : List Int) (out mn mx : Int) (X : List Nat) (w : World) (hc : OkC lo hi)
    (hbc : w.heap[Bc]? = some (.cells #[.slice (some ⟨lb, lf, none⟩) 4 ca, .slice (some ⟨hb, hf, none⟩) 4 cb, .int .i64 out, .int .i64 mn, .int .i64 mx] 40 (0, 0)))
    (hlb : lb < w.heap.size) (hhb : hb < w.heap.size) (hl : ∀ j n, lo[j]? = some n → w.cell? ⟨lb, lf + j, none⟩ = some (.int .i64 n)) (hh : ∀ j n, hi[j]? = some n → w.cell? ⟨hb, hf + j, none⟩ = some (.int .i64 n))
    (hX : Bc ∉ X ∧ lb ∉ X ∧ hb ∉ X) (hXl : ∀ x ∈ X, x < w.heap.size) :
    IterOf Try.prog n 102 #[.pointer (some ⟨Bc, 0, none⟩)] (encSt lo hi) X (stRs lo hi) w := fun l J Jx W hW hJ hY h0 => by
  have hBc := hp_lt hbc
  have hbc' := hp_below hbc hW hBc
  have hws := hW.size
  have hl' := fun j m hj => (hW.cell (p := ⟨lb, lf + j, none⟩) hlb).trans (hl j m hj)
  have hh' := fun j m hj => (hW.cell (p := ⟨hb, hf + j, none⟩) hhb).trans (hh j m hj)
  obtain ⟨hch, tl, hhead⟩ := exTo_chn lo hi hc.l4 hc.le 4 (Nat.le_refl _)
  rw [List.take_of_length_le (by rw [hc.l4]; exact Nat.le_refl _)] at hhead
  have HLR := Lib.hid (rangeAt_ints hl')
  have HL := Lib.hid hl'
  have HH := Lib.hid hh'
  have HBC := Lib.hid hbc'
  have HC := Lib.hid hc
  have HCH := Lib.hid (show chn (suc lo hi 4) (allS lo hi) none from hch)
  have HHD := Lib.hid (show allS lo hi = lo :: tl from hhead)
  have HJ := Lib.hid hJ
  have x0 := hp_cell hbc' (j := 0) (by rfl)
  have hLL : (lo.map (Value.int .i64)).length = 4 := by simp [hc.l4]
  have HLL := Lib.hid hLL
  clear hl' hh' hbc' hch hhead hc hJ hl hh hbc hLL
  have harr := run_arr lb lf ca
  refine callsIn_of_wp Try.func102 rfl trivial ?_ rfl
  simp only [Try.ntmps102, List.size_toArray, List.length_cons, List.length_nil, Nat.reduceAdd, Nat.reduceSub, Array.replicate_succ, Array.replicate_zero, List.push_toArray, List.append_toArray, List.nil_append, List.cons_append]
  gi_wp2_with (first | (refine wpListIn_load_mid rfl 103 (.tmp 7) rfl lb lf rfl _ _ HLR.out Try.underlying103 rfl (by rw [info_stt, HLL.out]) ?_) | (refine wpListIn_store_row rfl 103 (.tmp 3) (.tmp 8) rfl W.heap.size (iv lo) rfl rfl 103 _ (hp_new rfl) (by rw [info_stt, iv_size, HC.out.l4]) (by rw [iv_size, HC.out.l4]; rfl) (iv_one _) ?_))
  rw [row_new]
  clear harr x0
  have hI0 : (W.alloc (.cells (iv lo) 103)).heap[W.heap.size]? = some (.cells (iv lo) 103 (0, 0)) := hp_new rfl
  have hJ0 : J [] (W.alloc (.cells (iv lo) 103)) := HJ.out _ _ _ h0 ((Below.refl _ _).alloc (Nat.le_refl _) _)
  have hK0 : KX (W.heap.size :: X) (W.alloc (.cells (iv lo) 103)) (W.alloc (.cells (iv lo) 103)) := KX.refl _ _
  have HBC1 := Lib.hid (hp_alloc (o' := .cells (iv lo) 103) HBC.out)
  have HXI := Lib.hid (show W.heap.size ∉ X from fun hm => by have := hXl _ hm; omega)
  obtain ⟨W1, hW1⟩ : ∃ W1, W.alloc (.cells (iv lo) 103) = W1 := ⟨_, rfl⟩
  have hW1s : W1.heap.size = W.heap.size + 1 := by rw [← hW1]; simp
  have HBW := Lib.hid (show Below W.heap.size W W1 by rw [← hW1]; exact (Below.refl _ _).alloc (Nat.le_refl _) _)
  rw [hW1] at hI0 hJ0 hK0 HBC1 ⊢
  clear hW1
  gi_wp2_with fail
  simp only [Act.put]
  gi_loopw [] (fun wr => ∃ (j : Nat) (s : List Int), (allS lo hi)[j]? = some s ∧ wr.heap[W.heap.size]? = some (.cells (iv s) 103 (0, 0)) ∧ J ((stRs lo hi).take j) wr ∧ KX (W.heap.size :: X) W1 wr)
    (fun wr => remF lo hi (allS lo hi).length (rdB wr W.heap.size))
  case atStart => exact ⟨0, lo, by rw [HHD.out]; rfl, hI0, hJ0, hK0⟩
  case round =>
    obtain ⟨j, s, hs, hI, hJs, hK⟩ := hrel
    obtain ⟨x, hx, rfl⟩ := stRs_of hs
    have hjl : j < (stRs lo hi).length := (List.getElem?_eq_some_iff.1 hx).1
    obtain ⟨fn, tmps, assign, body, hy, hR⟩ := hY _ x wr hJs (by rw [List.length_take]; omega)
    unfold encSt at hy
    have HI := Lib.hid hI
    have HRD := Lib.hid (rdB_iv hI)
    have HX := Lib.hid hx
    have HS := Lib.hid hs
    have HKK := Lib.hid hK
    clear hJs hx hs hY hK hI
    have HX4 := Lib.hid x.2.1
    gi_wp2_with (refine wpListIn_load_row rfl 103 (.tmp 3) rfl W.heap.size rfl 103 (iv x.1) (0, 0) _ HI.out Try.underlying103 rfl (by rw [info_stt, iv_size, HX4.out]) ?_)
    refine hR.mono ?_
    rintro e W3 (⟨rfl, hJ3, hk3⟩ | ⟨rfl, hJx3⟩)
    · rw [← take_snoc HX.out] at hJ3
      have hI3 := hk3.heap HI.out HXI.out
      have hK3 : KX (W.heap.size :: X) W1 W3 := HKK.out.trans ⟨hk3.os, hk3.tape, hk3.output, hk3.size, fun k h1 h2 => hk3.same k h1 (fun hm => h2 (List.mem_cons_of_mem _ hm))⟩
      have HJ3 := Lib.hid hJ3
      have HI3 := Lib.hid hI3
      have HK3 := Lib.hid hK3
      clear hJ3 hI3 hK3 hk3 hR hy HI HKK
      gi_wp2_with fail
      refine wpIn_wide.2 ?_
      have hw31 := HK3.out.size
      go_loopw [4] (fun s4 wr => ∃ (r : Nat) (m : Int), s4 = .int .i64 m ∧ r ≤ 4 ∧ m ≤ (r : Int) - 1 ∧ (r : Int) - 1 ≤ m ∧ wr.heap[W.heap.size]? = some (.cells (iv (cur lo x.1 r)) 103 (0, 0)) ∧ (∀ j, r ≤ j → j < 4 → hi.getD j 0 ≤ x.1.getD j 0) ∧ KX (W.heap.size :: X) W1 wr ∧ Below W.heap.size W3 wr) (fun s4 _ => (intOf s4 + 1).toNat)
      case atStart => exact ⟨4, 3, rfl, by omega, by omega, by omega, by rw [cur_all lo x.1 HX4.out HC.out.l4]; exact HI3.out, fun j h1 h2 => by omega, HK3.out, Below.refl _ _⟩
      case round =>
        obtain ⟨r, m, rfl, hr4, hm1, hm2, hI, hge, hK, hB⟩ := hrel
        have b0 := hp_cell (hK.heap HBC1.out (fun hm => by
          rcases List.mem_cons.1 hm with e | e
          · omega
          · exact hX.1 e)) (j := 0) (by rfl)
        have b1 := hp_cell (hK.heap HBC1.out (fun hm => by
          rcases List.mem_cons.1 hm with e | e
          · omega
          · exact hX.1 e)) (j := 1) (by rfl)
        have HI := Lib.hid hI
        have HGE := Lib.hid hge
        have HKK := Lib.hid hK
        have HBB := Lib.hid hB
        clear hI hge hK hB
        have HDN := Lib.hid (fun q => (⟨rfl, rfl, rfl, Nat.le_refl _, fun _ _ => rfl⟩ : Below W.heap.size wr (wr.drewN q)))
        have KDN := Lib.hid (fun q => (⟨rfl, rfl, rfl, Nat.le_refl _, fun _ _ _ => rfl⟩ : KX (W.heap.size :: X) wr (wr.drewN q)))
        match r, hr4, hm1, hm2, HI, HGE with
        | 0, _, hm1, hm2, HI, HGE =>
          have hneg : m < 0 := by omega
          have hd : decide ((0 : Int) ≤ m) = false := by simp; omega
          go_wp2_with fail
          go_quiet (fail)
          have HE := Lib.hid (show (stRs lo hi).take (j + 1) = stRs lo hi by
            have h1 := chn_get HCH.out HS.out
            rw [suc_end lo hi x.1 HX4.out HC.out.l4 (fun q hq => Int.not_lt.2 (HGE.out q (Nat.zero_le _) hq))] at h1
            by_cases hlt : j + 1 < (allS lo hi).length
            · rw [if_pos hlt] at h1
              obtain ⟨y, hy⟩ := get_of_lt hlt
              rw [hy] at h1; cases h1
            · exact List.take_of_length_le (by rw [stRs_length]; omega))
          go_wp2_with fail
          gi_wp2_with fail
          refine bodyPost_ret (results_none rfl _ _ _) rfl ?_
          refine ⟨⟨_, rfl⟩, .inl ?_⟩
          rw [← HE.out]
          exact HJ.out _ _ _ HJ3.out (HBB.out.trans ⟨rfl, rfl, rfl, Nat.le_refl _, fun _ _ => rfl⟩)
        | k + 1, hr4, hm1, hm2, HI, HGE =>
          obtain rfl : m = (k : Int) := by omega
          have hxk := x.2.2 k (by omega)
          obtain ⟨lk, hlk⟩ := get_of_lt (show k < lo.length by rw [HC.out.l4]; omega)
          obtain ⟨hk, hhk⟩ := get_of_lt (show k < hi.length by rw [HC.out.h4]; omega)
          have hlkb := HC.out.lb lk (mem_of_get hlk)
          have hhkb := HC.out.hb hk (mem_of_get hhk)
          have hgk : (cur lo x.1 (k + 1)).getD k 0 = x.1.getD k 0 := cur_get lo x.1 HX4.out HC.out.l4 (by omega)
          have hcl : (cur lo x.1 (k + 1)).length = 4 := cur_length lo x.1 HX4.out HC.out.l4 hr4
          have i1 := hp_cell HI.out (iv_getN (cur lo x.1 (k + 1)) k (by rw [hcl]; omega))
          rw [hgk] at i1
          have i2 := hp_free HI.out k
          have nX : ∀ q, q ∉ X → q < W.heap.size → q ∉ W.heap.size :: X := fun q h1 h2 hm => by
            rcases List.mem_cons.1 hm with e | e
            · omega
            · exact h1 e
          have hB1 := HBW.out.size
          have l1 : wr.cell? ⟨lb, lf + k, none⟩ = some (.int .i64 lk) := (World.cell?_of_block (a := ⟨lb, _, none⟩) ((HKK.out.same lb (by omega) (nX lb hX.2.1 (by omega))).trans (HBW.out.block lb (by omega)))).trans (HL.out k lk hlk)
          have h1 : wr.cell? ⟨hb, hf + k, none⟩ = some (.int .i64 hk) := (World.cell?_of_block (a := ⟨hb, _, none⟩) ((HKK.out.same hb (by omega) (nX hb hX.2.2 (by omega))).trans (HBW.out.block hb (by omega)))).trans (HH.out k hk hhk)
          have elk := getD_of_get (d := 0) hlk
          have ehk := getD_of_get (d := 0) hhk
          rw [elk, ehk] at hxk
          have k0 : (0 : Int) ≤ (k : Int) := by omega
          have k4 : (k : Int) < 4 := by omega
          have kd : decide ((0 : Int) ≤ (k : Int)) = true := by simp
          have HLK := Lib.hid elk
          have HHK := Lib.hid ehk
          generalize hxv : x.1.getD k 0 = xv at i1 hxk
          have HXV := Lib.hid hxv
          clear nX hlk hhk hgk elk ehk hxv
          by_cases heq : xv = hk
          · have HEQ := Lib.hid heq
            have he1 : (xv == hk) = true := by simpa using heq
            clear heq
            go_wp2_with fail
            go_quiet (fail)
            go_wp2_with fail
            go_roundw
            case rel => exact ⟨k, (k : Int) - 1, rfl, by omega, by omega, by omega, by rw [← cur_set lo x.1 HX4.out HC.out.l4 (show k < 4 by omega), HLK.out, ← iv_set]; exact hp_put HI.out k _, fun q h1 h2 => by
                rcases Nat.lt_or_ge k q with hq | hq
                · exact HGE.out q (by omega) h2
                · obtain rfl : q = k := by omega
                  rw [HXV.out, HHK.out, HEQ.out]; exact Int.le_refl _,
              HKK.out.trans ((KDN.out _).trans (KX.setCell _ List.mem_cons_self _ _)),
              (HBB.out.trans (HDN.out _)).setCell (p := ⟨W.heap.size, _, none⟩) (Nat.le_refl _) _⟩
            case measure => simp [intOf]
          · have hne1 : (xv == hk) = false := by simpa using heq
            have hne2 : (xv != hk) = true := by simpa using heq
            have hlt : xv < hk := by omega
            have HLT := Lib.hid hlt
            clear heq
            have HSU := Lib.hid (show suc lo hi 4 x.1 = some ((cur lo x.1 (k + 1)).set k (xv + 1)) by
              rw [← HXV.out]
              exact suc_step lo hi x.1 HX4.out HC.out.l4 (show k < 4 by omega) (fun q h1 h2 => Int.not_lt.2 (HGE.out q (by omega) h2)) (by rw [HXV.out, HHK.out]; exact HLT.out))
            have hks : ¬ (k : Int) < 0 := by omega
            have hks2 : decide ((k : Int) < 0) = false := by simp
            go_wp2_with fail
            go_quiet (fail)
            go_wp2_with fail
            gi_wp2_with fail
            go_roundw
            case rel =>
              have h1 := chn_get HCH.out HS.out
              rw [HSU.out] at h1
              have hjn : j + 1 < (allS lo hi).length := by
                rcases Nat.lt_or_ge (j + 1) (allS lo hi).length with h | h
                · exact h
                · rw [if_neg (by omega)] at h1; cases h1
              rw [if_pos hjn] at h1
              exact ⟨j + 1, _, h1.symm, by rw [← iv_set]; exact hp_put HI.out k _, HJ.out _ _ _ HJ3.out ((HBB.out.trans (HDN.out _)).setCell (p := ⟨W.heap.size, _, none⟩) (Nat.le_refl _) _), HKK.out.trans ((KDN.out _).trans (KX.setCell _ List.mem_cons_self _ _))⟩
            case measure =>
              have h1 := chn_get HCH.out HS.out
              rw [HSU.out] at h1
              have hjn : j + 1 < (allS lo hi).length := by
                rcases Nat.lt_or_ge (j + 1) (allS lo hi).length with h | h
                · exact h
                · rw [if_neg (by omega)] at h1; cases h1
              rw [if_pos hjn] at h1
              have e1 := remF_at HCH.out ((allS lo hi).length - (j + 1)) j x.1 HS.out (by omega) (allS lo hi).length (by omega)
              have e2 := remF_at HCH.out ((allS lo hi).length - (j + 2)) (j + 1) _ h1.symm (by omega) (allS lo hi).length (by omega)
              rw [HRD.out, e1, rdB_iv (t := 103) (s := (cur lo x.1 (k + 1)).set k (xv + 1)) (by rw [← iv_set]; exact hp_put HI.out k _), e2]
              omega
    · rw [← take_snoc HX.out] at hJx3
      have HJX := Lib.hid hJx3
      clear hJx3
      gi_wp2_with fail
      go_end0
      exact ⟨⟨_, rfl⟩, .inr ⟨_, List.take_prefix _ _, HJX.out⟩⟩

end Go.Proofs.Ytmpgaccpdglhkaa
