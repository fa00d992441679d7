/- trace of the document's answers: the memory that it keeps. -/
import Derived.Test.YtndmjenfgggfbaaRefB
import Derived.Test.YtndmjenfgggfbaaLns
import Derived.Test.YtndmjenfgggfbaaPlain
set_option linter.unusedVariables false
set_option linter.unusedSimpArgs false
namespace Go.Proofs.Ytndmjenfgggfbaa
open Go.RowKit Tinker

/-- A block of numbers. -/
def BInts (W : World) (b : Nat) (s : List Int) : Prop := ∃ (cs : Array Value) (t : TypeId), W.heap[b]? = some (.cells cs t (0, 0)) ∧ ∀ (j : Nat) (n : Int), s[j]? = some n → cs[j]? = some (.int .i64 n)
theorem BInts.at_ {W : World} {b : Nat} {s : List Int} (h : BInts W b s) : IntsAt W (some ⟨b, 0, none⟩) s := by
  obtain ⟨cs, t, hg, hc⟩ := h
  exact .inr ⟨b, 0, rfl, hp_lt hg, fun j n hj => by rw [Nat.zero_add]; exact hp_cell hg (hc j n hj)⟩
theorem BInts.lt {W : World} {b : Nat} {s : List Int} (h : BInts W b s) : b < W.heap.size := by
  obtain ⟨cs, t, hg, hc⟩ := h; exact hp_lt hg
theorem BInts.same {W W' : World} {b : Nat} {s : List Int} (h : BInts W b s) (e : W'.heap[b]? = W.heap[b]?) : BInts W' b s := by
  obtain ⟨cs, t, hg, hc⟩ := h; exact ⟨cs, t, e.trans hg, hc⟩
theorem bints_of_own {w : World} {base : Nat} {e : TypeId} {g n c : Nat} {zs : List Int} (h : w.ownsRow base e 1 (.slice (some ⟨g, 0, none⟩) n c) n (zs.map (Value.int .i64))) : BInts w g zs := by
  rcases h.2 with ⟨he, hn⟩ | ⟨g', cap, cur, he, _, hg, _, _, _, hx⟩
  · cases he
  · injection he with ha _ hc
    injection ha with ha
    injection ha with ha
    subst ha
    refine ⟨cur, e, hg, fun j z hj => ?_⟩
    have h2 : (zs.map (Value.int .i64))[j]? = some (.int .i64 z) := by simp [hj]
    rw [← hx, List.getElem?_take] at h2
    split at h2
    · simpa using h2
    · cases h2

/-- The cells of steps: N is the block of the numbers of now, o that of the steps. -/
def StepC (W : World) (base N : Nat) (o : Option Nat) (st : List (Nat × List Int)) (xs : List Value) : Prop :=
  ∀ (k i : Nat) (s : List Int), st[k]? = some (i, s) → xs[k * 2]? = some (.int .i64 (i : Int)) ∧ ∃ b c, xs[k * 2 + 1]? = some (.slice (some ⟨b, 0, none⟩) 4 c) ∧ base ≤ b ∧ b ≠ N ∧ o ≠ some b ∧ BInts W b s
theorem StepC.same {W W' : World} {base N : Nat} {o : Option Nat} {st : List (Nat × List Int)} {xs : List Value} (h : StepC W base N o st xs) (e : ∀ b, b < W.heap.size → base ≤ b → b ≠ N → o ≠ some b → W'.heap[b]? = W.heap[b]?) : StepC W' base N o st xs :=
  fun k i s hk => by
    obtain ⟨h1, b, c, h2, h3, h4, h5, h6⟩ := h k i s hk
    exact ⟨h1, b, c, h2, h3, h4, h5, h6.same (e b h6.lt h3 h4 h5)⟩

/-- What holds on the way through trace: s is the state now, acc the steps so far. -/
structure TrI (N cN : Nat) (w : World) (v : Value) (s : List Int) (acc : List (Nat × List Int)) (xs : List Value) (W : World) : Prop where
  now : W.ownsRow w.heap.size 3 1 (.slice (some ⟨N, 0, none⟩) 4 cN) 4 (s.map (Value.int .i64))
  out : W.ownsRow w.heap.size 116 2 v acc.length xs
  ne : v.ownBlock ≠ some N
  st : StepC W w.heap.size N v.ownBlock acc xs
  below : Below w.heap.size w W

theorem TrI.low {N cN : Nat} {w : World} {v : Value} {s : List Int} {acc : List (Nat × List Int)} {xs : List Value} {W W' : World} (h : TrI N cN w v s acc xs W) (hb : Below W.heap.size W W') : TrI N cN w v s acc xs W' :=
  ⟨own_below h.now hb (Nat.le_refl _), own_below h.out hb (Nat.le_refl _), h.ne, h.st.same fun b hlt _ _ _ => hb.block b hlt, h.below.trans (hb.mono h.below.size)⟩
theorem TrI.alloc {N cN : Nat} {w : World} {v : Value} {s : List Int} {acc : List (Nat × List Int)} {xs : List Value} {W : World} (h : TrI N cN w v s acc xs W) (o : Obj) : TrI N cN w v s acc xs (W.alloc o) :=
  h.low ((Below.refl _ _).alloc (Nat.le_refl _) _)
theorem TrI.drewN {N cN : Nat} {w : World} {v : Value} {s : List Int} {acc : List (Nat × List Int)} {xs : List Value} {W : World} (h : TrI N cN w v s acc xs W) (n : Nat) : TrI N cN w v s acc xs (W.drewN n) :=
  h.low ⟨rfl, rfl, rfl, Nat.le_refl _, fun _ _ => rfl⟩
theorem TrI.slt {N cN : Nat} {w : World} {v : Value} {s : List Int} {acc : List (Nat × List Int)} {xs : List Value} {W : World} (h : TrI N cN w v s acc xs W) : s.length = 4 := by simpa using h.now.1
/-- A number of now is written. -/
theorem TrI.put {N cN : Nat} {w : World} {v : Value} {s : List Int} {acc : List (Nat × List Int)} {xs : List Value} {W : World} (h : TrI N cN w v s acc xs W) (j : Nat) (n : Int) : TrI N cN w v (s.set j n) acc xs (W.setCell ⟨N, j, none⟩ (.int .i64 n)) := by
  refine ⟨?_, ?_, h.ne, ?_, h.below.setCell (p := ⟨N, j, none⟩) (own_base' h.now) _⟩
  · rw [List.map_set]; exact own_setCell h.now j _
  · refine ⟨h.out.1, ?_⟩
    rcases h.out.2 with hn | ⟨g, cap, cur, hv, hb, hg, rest⟩
    · exact .inl hn
    · refine .inr ⟨g, cap, cur, hv, hb, hp_set hg (fun e => h.ne ?_) _, rest⟩
      rw [hv]
      simp only [Value.ownBlock]
      exact congrArg some e
  · refine h.st.same fun b _ _ hN _ => ?_
    exact Below.heap_setCell W ⟨N, j, none⟩ _ b hN
theorem own_val_lt {w : World} {base n size : Nat} {e : TypeId} {v : Value} {xs : List Value} (h : w.ownsRow base e size v n xs) {b : Nat} (hb : v.ownBlock = some b) : b < w.heap.size := (h.lt b hb).2
/-- A step is added. -/
theorem TrI.push {N cN : Nat} {w : World} {v v' : Value} {s : List Int} {acc : List (Nat × List Int)} {xs : List Value} {W W3 : World} {b c i : Nat} (h : TrI N cN w v s acc xs W) (hb : BInts W b s) (hb1 : w.heap.size ≤ b) (hbN : b ≠ N) (hbv : v.ownBlock ≠ some b)
    (hown : W3.ownsRow w.heap.size 116 2 v' (acc.length + 1) (xs ++ [.int .i64 (i : Int), .slice (some ⟨b, 0, none⟩) 4 c])) (hgrow : W.grownBy W3 v.ownBlock) (hat : v'.ownBlock = v.ownBlock ∨ v'.ownBlock = some W.heap.size) :
    TrI N cN w v' s (acc ++ [(i, s)]) (xs ++ [.int .i64 (i : Int), .slice (some ⟨b, 0, none⟩) 4 c]) W3 := by
  have hx : xs.length = acc.length * 2 := h.out.1
  have hN := own_lt h.now
  have hne' : ∀ q, q < W.heap.size → v.ownBlock ≠ some q → v'.ownBlock ≠ some q := fun q hq h1 h2 => by
    rcases hat with e | e
    · exact h1 (e.symm.trans h2)
    · rw [e] at h2; injection h2 with h2; omega
  refine ⟨h.now.kept hgrow (.inr fun e => h.ne (by rw [← e]; rfl)), by simpa using hown, hne' N hN h.ne, ?_, ?_⟩
  · intro k j t hk
    rcases Nat.lt_or_ge k acc.length with hlt | hge
    · rw [List.getElem?_append_left hlt] at hk
      obtain ⟨h1, b', c', h2, h3, h4, h5, h6⟩ := h.st k j t hk
      refine ⟨by rw [List.getElem?_append_left (by omega)]; exact h1, b', c', by rw [List.getElem?_append_left (by omega)]; exact h2, h3, h4, hne' b' h6.lt h5, h6.same ?_⟩
      exact hgrow.block b' h6.lt (fun e => h5 e.symm)
    · rw [List.getElem?_append_right hge] at hk
      have hk0 : k = acc.length := by
        have := (List.getElem?_eq_some_iff.1 hk).1
        simp at this; omega
      subst hk0
      simp at hk
      obtain ⟨rfl, rfl⟩ := hk
      refine ⟨by rw [List.getElem?_append_right (by omega), hx]; simp, b, c, by rw [List.getElem?_append_right (by omega), hx]; simp, hb1, hbN, hne' b hb.lt hbv, hb.same ?_⟩
      exact hgrow.block b hb.lt (fun e => hbv e.symm)
  · exact h.below.grown hgrow h.below.size (fun k hk => by have := (h.out.lt k hk).1; omega)

/-- What the address of steps leads to; all of it lies from base on. -/
def StepsAt (W : World) (base : Nat) (a : Option Addr) (st : List (Nat × List Int)) : Prop :=
  st = [] ∨ ∃ g, a = some ⟨g, 0, none⟩ ∧ base ≤ g ∧ g < W.heap.size ∧ ∀ (k i : Nat) (s : List Int), st[k]? = some (i, s) → W.cell? ⟨g, k * 2, none⟩ = some (.int .i64 (i : Int)) ∧ ∃ b c, W.cell? ⟨g, k * 2 + 1, none⟩ = some (.slice (some ⟨b, 0, none⟩) 4 c) ∧ base ≤ b ∧ BInts W b s
theorem StepsAt.same {W W' : World} {base : Nat} {a : Option Addr} {st : List (Nat × List Int)} (h : StepsAt W base a st) (hs : W.heap.size ≤ W'.heap.size) (e : ∀ b, base ≤ b → b < W.heap.size → W'.heap[b]? = W.heap[b]?) : StepsAt W' base a st := by
  rcases h with h | ⟨g, ea, hge, hlt, hc⟩
  · exact .inl h
  · have hg := e g hge hlt
    refine .inr ⟨g, ea, hge, Nat.lt_of_lt_of_le hlt hs, fun k i s hk => ?_⟩
    obtain ⟨h1, b, c, h2, h3, h4⟩ := hc k i s hk
    exact ⟨(World.cell?_of_block (a := ⟨g, _, none⟩) hg).trans h1, b, c, (World.cell?_of_block (a := ⟨g, _, none⟩) hg).trans h2, h3, h4.same (e b h3 h4.lt)⟩
theorem StepsAt.below {W W' : World} {base B : Nat} {a : Option Addr} {st : List (Nat × List Int)} (h : StepsAt W base a st) (hb : Below B W W') (hB : W.heap.size ≤ B) : StepsAt W' base a st :=
  h.same hb.size fun b _ hlt => hb.block b (by omega)
/-- A cell below base is written. -/
theorem StepsAt.put {W : World} {base : Nat} {a : Option Addr} {st : List (Nat × List Int)} (h : StepsAt W base a st) {g : Nat} (hg : g < base) (j : Nat) (v : Value) : StepsAt (W.setCell ⟨g, j, none⟩ v) base a st :=
  h.same (by simp) fun b hb _ => Below.heap_setCell W ⟨g, j, none⟩ v b (by show b ≠ g; omega)
theorem StepsAt.at_ {W : World} {base : Nat} {a : Option Addr} {st : List (Nat × List Int)} (h : StepsAt W base a st) {k : Nat} (hk : k < st.length) : ∃ g i s b c, a = some ⟨g, 0, none⟩ ∧ st[k]? = some (i, s) ∧ W.cell? ⟨g, k * 2, none⟩ = some (.int .i64 (i : Int)) ∧ W.cell? ⟨g, k * 2 + 1, none⟩ = some (.slice (some ⟨b, 0, none⟩) 4 c) ∧ IntsAt W (some ⟨b, 0, none⟩) s := by
  obtain ⟨g, e, _, hlt, hc⟩ := h.resolve_left (by rintro rfl; simp at hk)
  obtain ⟨⟨i, s⟩, hx⟩ := get_of_lt hk
  obtain ⟨h1, b, c, h2, _, h3⟩ := hc k i s hx
  exact ⟨g, i, s, b, c, e, hx, h1, h2, h3.at_⟩
/-- What trace answers. -/
def GivesTrace (st : List (Nat × List Int)) (s : List Int) (w : World) (e : Ending) (w' : World) : Prop :=
  ∃ a c b cb, e = .returned (.tuple #[.slice a st.length c, .slice (some ⟨b, 0, none⟩) 4 cb]) ∧ StepsAt w' w.heap.size a st ∧ BInts w' b s ∧ w.heap.size ≤ b ∧ Below w.heap.size w w'

theorem TrI.gives {N cN : Nat} {w : World} {v : Value} {s : List Int} {acc : List (Nat × List Int)} {xs : List Value} {W : World} (h : TrI N cN w v s acc xs W) : GivesTrace acc s w (.returned (.tuple #[v, .slice (some ⟨N, 0, none⟩) 4 cN])) W := by
  obtain ⟨a, c, rfl⟩ := own_slice h.out
  refine ⟨a, c, N, cN, rfl, ?_, bints_of_own h.now, own_base' h.now, h.below⟩
  rcases Nat.eq_zero_or_pos acc.length with h0 | h0
  · exact .inl (List.eq_nil_of_length_eq_zero h0)
  · obtain ⟨g, rfl⟩ := own_form h.out h0
    refine .inr ⟨g, rfl, own_base' h.out, own_lt h.out, fun k i t hk => ?_⟩
    obtain ⟨h1, b, c', h2, h3, h4, h5, h6⟩ := h.st k i t hk
    exact ⟨own_cell h.out h1, b, c', own_cell h.out h2, h3, h6⟩

theorem info_step : (Try.prog.info? 116).map (fun i => (i.zero, i.size, i.bytes)) = some (some (.agg #[.int .i64 0, .slice none 0 0]), 2, 32) := by kernel_rfl

end Go.Proofs.Ytndmjenfgggfbaa
