/- Several texts in one. -/
import Derived.Test.YtmigkbimdjiigaaRefB
import Derived.Test.YtmigkbimdjiigaaLns
import Derived.Test.YtmigkbimdjiigaaPlain
import Derived.BigQuiet
import Derived.Deep.QuietTactic
/- trace of the document's answers: the memory that it keeps. -/
set_option linter.unusedVariables false
set_option linter.unusedSimpArgs false
namespace Go.Proofs.Ytmigkbimdjiigaa
open Go.RowKit Tinker

/-- A block of numbers. -/
def BInts (W : World) (b : Nat) (s : List Int) : Prop := ∃ (cs : Array Value) (t : TypeId), W.heap[b]? = some (.cells cs t (0, 0)) ∧ ∀ (j : Nat) (n : Int), s[j]? = some n → cs[j]? = some (.int .i64 n)
theorem BInts.at_ {W : World} {b : Nat} {s : List Int} (h : BInts W b s) : IntsAt W (some ⟨b, 0, none⟩) s := by
  obtain ⟨cs, t, hg, hc⟩ := h
  exact .inr ⟨b, 0, rfl, hp_lt hg, fun j n hj => by rw [Nat.zero_add]; exact hp_cell hg (hc j n hj)⟩
theorem BInts.lt {W : World} {b : Nat} {s : List Int} (h : BInts W b s) : b < W.heap.size := by
  obtain ⟨cs, t, hg, hc⟩ := h; exact hp_lt hg
theorem BInts.same {W W' : World} {b : Nat} {s : List Int} (h : BInts W b s) (e : W'.heap[b]? = W.heap[b]?) : BInts W' b s := by
  obtain ⟨cs, t, hg, hc⟩ := h; exact ⟨cs, t, e.trans hg, hc⟩
theorem bints_of_own {w : World} {base : Nat} {e : TypeId} {g n c : Nat} {zs : List Int} (h : w.ownsRow base e 1 (.slice (some ⟨g, 0, none⟩) n c) n (zs.map (Value.int .i64))) : BInts w g zs := by
  rcases h.2 with ⟨he, hn⟩ | ⟨g', cap, cur, he, _, hg, _, _, _, hx⟩
  · cases he
  · injection he with ha _ hc
    injection ha with ha
    injection ha with ha
    subst ha
    refine ⟨cur, e, hg, fun j z hj => ?_⟩
    have h2 : (zs.map (Value.int .i64))[j]? = some (.int .i64 z) := by simp [hj]
    rw [← hx, List.getElem?_take] at h2
    split at h2
    · simpa using h2
    · cases h2

/-- The cells of steps: N is the block of the numbers of now, o that of the steps. -/
def StepC (W : World) (base N : Nat) (o : Option Nat) (st : List (Nat × List Int)) (xs : List Value) : Prop :=
  ∀ (k i : Nat) (s : List Int), st[k]? = some (i, s) → xs[k * 2]? = some (.int .i64 (i : Int)) ∧ ∃ b c, xs[k * 2 + 1]? = some (.slice (some ⟨b, 0, none⟩) 4 c) ∧ base ≤ b ∧ b ≠ N ∧ o ≠ some b ∧ BInts W b s
theorem StepC.same {W W' : World} {base N : Nat} {o : Option Nat} {st : List (Nat × List Int)} {xs : List Value} (h : StepC W base N o st xs) (e : ∀ b, b < W.heap.size → base ≤ b → b ≠ N → o ≠ some b → W'.heap[b]? = W.heap[b]?) : StepC W' base N o st xs :=
  fun k i s hk => by
    obtain ⟨h1, b, c, h2, h3, h4, h5, h6⟩ := h k i s hk
    exact ⟨h1, b, c, h2, h3, h4, h5, h6.same (e b h6.lt h3 h4 h5)⟩

theorem own_val_lt {w : World} {base n size : Nat} {e : TypeId} {v : Value} {xs : List Value} (h : w.ownsRow base e size v n xs) {b : Nat} (hb : v.ownBlock = some b) : b < w.heap.size := (h.lt b hb).2
/-- What the address of steps leads to; all of it lies from base on. -/
def StepsAt (W : World) (base : Nat) (a : Option Addr) (st : List (Nat × List Int)) : Prop :=
  st = [] ∨ ∃ g, a = some ⟨g, 0, none⟩ ∧ base ≤ g ∧ g < W.heap.size ∧ ∀ (k i : Nat) (s : List Int), st[k]? = some (i, s) → W.cell? ⟨g, k * 2, none⟩ = some (.int .i64 (i : Int)) ∧ ∃ b c, W.cell? ⟨g, k * 2 + 1, none⟩ = some (.slice (some ⟨b, 0, none⟩) 4 c) ∧ base ≤ b ∧ BInts W b s
theorem StepsAt.same {W W' : World} {base : Nat} {a : Option Addr} {st : List (Nat × List Int)} (h : StepsAt W base a st) (hs : W.heap.size ≤ W'.heap.size) (e : ∀ b, base ≤ b → b < W.heap.size → W'.heap[b]? = W.heap[b]?) : StepsAt W' base a st := by
  rcases h with h | ⟨g, ea, hge, hlt, hc⟩
  · exact .inl h
  · have hg := e g hge hlt
    refine .inr ⟨g, ea, hge, Nat.lt_of_lt_of_le hlt hs, fun k i s hk => ?_⟩
    obtain ⟨h1, b, c, h2, h3, h4⟩ := hc k i s hk
    exact ⟨(World.cell?_of_block (a := ⟨g, _, none⟩) hg).trans h1, b, c, (World.cell?_of_block (a := ⟨g, _, none⟩) hg).trans h2, h3, h4.same (e b h3 h4.lt)⟩
theorem StepsAt.below {W W' : World} {base B : Nat} {a : Option Addr} {st : List (Nat × List Int)} (h : StepsAt W base a st) (hb : Below B W W') (hB : W.heap.size ≤ B) : StepsAt W' base a st :=
  h.same hb.size fun b _ hlt => hb.block b (by omega)
/-- A cell below base is written. -/
theorem StepsAt.put {W : World} {base : Nat} {a : Option Addr} {st : List (Nat × List Int)} (h : StepsAt W base a st) {g : Nat} (hg : g < base) (j : Nat) (v : Value) : StepsAt (W.setCell ⟨g, j, none⟩ v) base a st :=
  h.same (by simp) fun b hb _ => Below.heap_setCell W ⟨g, j, none⟩ v b (by show b ≠ g; omega)
theorem StepsAt.at_ {W : World} {base : Nat} {a : Option Addr} {st : List (Nat × List Int)} (h : StepsAt W base a st) {k : Nat} (hk : k < st.length) : ∃ g i s b c, a = some ⟨g, 0, none⟩ ∧ st[k]? = some (i, s) ∧ W.cell? ⟨g, k * 2, none⟩ = some (.int .i64 (i : Int)) ∧ W.cell? ⟨g, k * 2 + 1, none⟩ = some (.slice (some ⟨b, 0, none⟩) 4 c) ∧ IntsAt W (some ⟨b, 0, none⟩) s := by
  obtain ⟨g, e, _, hlt, hc⟩ := h.resolve_left (by rintro rfl; simp at hk)
  obtain ⟨⟨i, s⟩, hx⟩ := get_of_lt hk
  obtain ⟨h1, b, c, h2, _, h3⟩ := hc k i s hx
  exact ⟨g, i, s, b, c, e, hx, h1, h2, h3.at_⟩
/-- What trace answers. -/
def GivesTrace (st : List (Nat × List Int)) (s : List Int) (w : World) (e : Ending) (w' : World) : Prop :=
  ∃ a c b cb, e = .returned (.tuple #[.slice a st.length c, .slice (some ⟨b, 0, none⟩) 4 cb]) ∧ StepsAt w' w.heap.size a st ∧ BInts w' b s ∧ w.heap.size ≤ b ∧ Below w.heap.size w w'

end Go.Proofs.Ytmigkbimdjiigaa

/- trace of the document's answers: contract. -/
set_option linter.unusedVariables false
set_option linter.unusedSimpArgs false
namespace Go.Proofs.Ytmigkbimdjiigaa
open Go.RowKit Tinker

theorem wr_op {l : L} : Tinker.wr l = true ↔ l.op ≠ 0 ∧ l.op ≠ 7 := by simp [Tinker.wr]
theorem cell_two_new (w : World) (x y : Value) (t : TypeId) : ∀ j u, [x, y][j]? = some u → (w.alloc (.cells #[x, y] t)).cell? ((⟨w.heap.size, 0, none⟩ : Addr).add j) = some u := by
  intro j u hj
  match j, hj with
  | 0, hj => simp at hj; subst hj; simp [Addr.add]
  | 1, hj => simp at hj; subst hj; simp [Addr.add]
  | j + 2, hj => simp at hj

theorem nxt_skip {l : L} {s : List Int} {i : Nat} (h : skips l s = true) : nxt l s i = i + 1 + l.to.toNat := by unfold nxt; rw [h]; rfl
theorem nxt_step {l : L} {s : List Int} {i : Nat} (h : skips l s = false) : nxt l s i = i + 1 := by unfold nxt; rw [h]; rfl
theorem fL_ok {ls vs : List Int} (hn : vs.length = ls.length) (hb : ∀ n ∈ vs, -999 ≤ n ∧ n ≤ 999) {i : Nat} {n : Int} (h : fL ls vs i = some n) : -999 ≤ n ∧ n ≤ 999 := by
  obtain ⟨j, h1, h2, h3⟩ := fLk_some h
  obtain ⟨x, hx⟩ := get_of_lt (show j < vs.length by omega)
  rw [getD_of_get hx] at h3
  subst h3
  exact hb _ (mem_of_get hx)

end Go.Proofs.Ytmigkbimdjiigaa
