/- Several texts in one. -/
import Derived.Test.YtikblaebfpdngaaGreatRefB
import Derived.Test.YtikblaebfpdngaaGreatLns
import Derived.Test.YtikblaebfpdngaaGreatPlain
import Derived.BigQuiet
import Derived.Deep.QuietTactic
/- trace of the document's answers: the memory that it keeps. -/
set_option linter.unusedVariables false
set_option linter.unusedSimpArgs false
namespace Go.Proofs.YtikblaebfpdngaaGreat
open Go.RowKit Tinker

/-- A block of numbers. -/
def BInts (W : World) (b : Nat) (s : List Int) : Prop := ∃ (cs : Array Value) (t : TypeId), W.heap[b]? = some (.cells cs t (0, 0)) ∧ ∀ (j : Nat) (n : Int), s[j]? = some n → cs[j]? = some (.int .i64 n)
theorem BInts.at_ {W : World} {b : Nat} {s : List Int} (h : BInts W b s) : IntsAt W (some ⟨b, 0, none⟩) s := by
  obtain ⟨cs, t, hg, hc⟩ := h
  exact .inr ⟨b, 0, rfl, hp_lt hg, fun j n hj => by rw [Nat.zero_add]; exact hp_cell hg (hc j n hj)⟩
theorem BInts.lt {W : World} {b : Nat} {s : List Int} (h : BInts W b s) : b < W.heap.size := by
  obtain ⟨cs, t, hg, hc⟩ := h; exact hp_lt hg
theorem BInts.same {W W' : World} {b : Nat} {s : List Int} (h : BInts W b s) (e : W'.heap[b]? = W.heap[b]?) : BInts W' b s := by
  obtain ⟨cs, t, hg, hc⟩ := h; exact ⟨cs, t, e.trans hg, hc⟩
theorem bints_of_own {w : World} {base : Nat} {e : TypeId} {g n c : Nat} {zs : List Int} (h : w.ownsRow base e 1 (.slice (some ⟨g, 0, none⟩) n c) n (zs.map (Value.int .i64))) : BInts w g zs := by
  rcases h.2 with ⟨he, hn⟩ | ⟨g', cap, cur, he, _, hg, _, _, _, hx⟩
  · cases he
  · injection he with ha _ hc
    injection ha with ha
    injection ha with ha
    subst ha
    refine ⟨cur, e, hg, fun j z hj => ?_⟩
    have h2 : (zs.map (Value.int .i64))[j]? = some (.int .i64 z) := by simp [hj]
    rw [← hx, List.getElem?_take] at h2
    split at h2
    · simpa using h2
    · cases h2

/-- The cells of steps: N is the block of the numbers of now, o that of the steps. -/
def StepC (W : World) (base N : Nat) (o : Option Nat) (st : List (Nat × List Int)) (xs : List Value) : Prop :=
  ∀ (k i : Nat) (s : List Int), st[k]? = some (i, s) → xs[k * 2]? = some (.int .i64 (i : Int)) ∧ ∃ b c, xs[k * 2 + 1]? = some (.slice (some ⟨b, 0, none⟩) 4 c) ∧ base ≤ b ∧ b ≠ N ∧ o ≠ some b ∧ BInts W b s
theorem StepC.same {W W' : World} {base N : Nat} {o : Option Nat} {st : List (Nat × List Int)} {xs : List Value} (h : StepC W base N o st xs) (e : ∀ b, b < W.heap.size → base ≤ b → b ≠ N → o ≠ some b → W'.heap[b]? = W.heap[b]?) : StepC W' base N o st xs :=
  fun k i s hk => by
    obtain ⟨h1, b, c, h2, h3, h4, h5, h6⟩ := h k i s hk
    exact ⟨h1, b, c, h2, h3, h4, h5, h6.same (e b h6.lt h3 h4 h5)⟩

/-- What holds on the way through trace: s is the state now, acc the steps so far. -/
structure TrI (N cN : Nat) (w : World) (v : Value) (s : List Int) (acc : List (Nat × List Int)) (xs : List Value) (W : World) : Prop where
  now : W.ownsRow w.heap.size 3 1 (.slice (some ⟨N, 0, none⟩) 4 cN) 4 (s.map (Value.int .i64))
  out : W.ownsRow w.heap.size 187 2 v acc.length xs
  ne : v.ownBlock ≠ some N
  st : StepC W w.heap.size N v.ownBlock acc xs
  below : Below w.heap.size w W

theorem TrI.low {N cN : Nat} {w : World} {v : Value} {s : List Int} {acc : List (Nat × List Int)} {xs : List Value} {W W' : World} (h : TrI N cN w v s acc xs W) (hb : Below W.heap.size W W') : TrI N cN w v s acc xs W' :=
  ⟨own_below h.now hb (Nat.le_refl _), own_below h.out hb (Nat.le_refl _), h.ne, h.st.same fun b hlt _ _ _ => hb.block b hlt, h.below.trans (hb.mono h.below.size)⟩
theorem TrI.alloc {N cN : Nat} {w : World} {v : Value} {s : List Int} {acc : List (Nat × List Int)} {xs : List Value} {W : World} (h : TrI N cN w v s acc xs W) (o : Obj) : TrI N cN w v s acc xs (W.alloc o) :=
  h.low ((Below.refl _ _).alloc (Nat.le_refl _) _)
theorem TrI.drewN {N cN : Nat} {w : World} {v : Value} {s : List Int} {acc : List (Nat × List Int)} {xs : List Value} {W : World} (h : TrI N cN w v s acc xs W) (n : Nat) : TrI N cN w v s acc xs (W.drewN n) :=
  h.low ⟨rfl, rfl, rfl, Nat.le_refl _, fun _ _ => rfl⟩
theorem TrI.slt {N cN : Nat} {w : World} {v : Value} {s : List Int} {acc : List (Nat × List Int)} {xs : List Value} {W : World} (h : TrI N cN w v s acc xs W) : s.length = 4 := by simpa using h.now.1
/-- A number of now is written. -/
theorem TrI.put {N cN : Nat} {w : World} {v : Value} {s : List Int} {acc : List (Nat × List Int)} {xs : List Value} {W : World} (h : TrI N cN w v s acc xs W) (j : Nat) (n : Int) : TrI N cN w v (s.set j n) acc xs (W.setCell ⟨N, j, none⟩ (.int .i64 n)) := by
  refine ⟨?_, ?_, h.ne, ?_, h.below.setCell (p := ⟨N, j, none⟩) (own_base' h.now) _⟩
  · rw [List.map_set]; exact own_setCell h.now j _
  · refine ⟨h.out.1, ?_⟩
    rcases h.out.2 with hn | ⟨g, cap, cur, hv, hb, hg, rest⟩
    · exact .inl hn
    · refine .inr ⟨g, cap, cur, hv, hb, hp_set hg (fun e => h.ne ?_) _, rest⟩
      rw [hv]
      simp only [Value.ownBlock]
      exact congrArg some e
  · refine h.st.same fun b _ _ hN _ => ?_
    exact Below.heap_setCell W ⟨N, j, none⟩ _ b hN
theorem own_val_lt {w : World} {base n size : Nat} {e : TypeId} {v : Value} {xs : List Value} (h : w.ownsRow base e size v n xs) {b : Nat} (hb : v.ownBlock = some b) : b < w.heap.size := (h.lt b hb).2
/-- A step is added. -/
theorem TrI.push {N cN : Nat} {w : World} {v v' : Value} {s : List Int} {acc : List (Nat × List Int)} {xs : List Value} {W W3 : World} {b c i : Nat} (h : TrI N cN w v s acc xs W) (hb : BInts W b s) (hb1 : w.heap.size ≤ b) (hbN : b ≠ N) (hbv : v.ownBlock ≠ some b)
    (hown : W3.ownsRow w.heap.size 187 2 v' (acc.length + 1) (xs ++ [.int .i64 (i : Int), .slice (some ⟨b, 0, none⟩) 4 c])) (hgrow : W.grownBy W3 v.ownBlock) (hat : v'.ownBlock = v.ownBlock ∨ v'.ownBlock = some W.heap.size) :
    TrI N cN w v' s (acc ++ [(i, s)]) (xs ++ [.int .i64 (i : Int), .slice (some ⟨b, 0, none⟩) 4 c]) W3 := by
  have hx : xs.length = acc.length * 2 := h.out.1
  have hN := own_lt h.now
  have hne' : ∀ q, q < W.heap.size → v.ownBlock ≠ some q → v'.ownBlock ≠ some q := fun q hq h1 h2 => by
    rcases hat with e | e
    · exact h1 (e.symm.trans h2)
    · rw [e] at h2; injection h2 with h2; omega
  refine ⟨h.now.kept hgrow (.inr fun e => h.ne (by rw [← e]; rfl)), by simpa using hown, hne' N hN h.ne, ?_, ?_⟩
  · intro k j t hk
    rcases Nat.lt_or_ge k acc.length with hlt | hge
    · rw [List.getElem?_append_left hlt] at hk
      obtain ⟨h1, b', c', h2, h3, h4, h5, h6⟩ := h.st k j t hk
      refine ⟨by rw [List.getElem?_append_left (by omega)]; exact h1, b', c', by rw [List.getElem?_append_left (by omega)]; exact h2, h3, h4, hne' b' h6.lt h5, h6.same ?_⟩
      exact hgrow.block b' h6.lt (fun e => h5 e.symm)
    · rw [List.getElem?_append_right hge] at hk
      have hk0 : k = acc.length := by
        have := (List.getElem?_eq_some_iff.1 hk).1
        simp at this; omega
      subst hk0
      simp at hk
      obtain ⟨rfl, rfl⟩ := hk
      refine ⟨by rw [List.getElem?_append_right (by omega), hx]; simp, b, c, by rw [List.getElem?_append_right (by omega), hx]; simp, hb1, hbN, hne' b hb.lt hbv, hb.same ?_⟩
      exact hgrow.block b hb.lt (fun e => hbv e.symm)
  · exact h.below.grown hgrow h.below.size (fun k hk => by have := (h.out.lt k hk).1; omega)

/-- What the address of steps leads to; all of it lies from base on. -/
def StepsAt (W : World) (base : Nat) (a : Option Addr) (st : List (Nat × List Int)) : Prop :=
  st = [] ∨ ∃ g, a = some ⟨g, 0, none⟩ ∧ base ≤ g ∧ g < W.heap.size ∧ ∀ (k i : Nat) (s : List Int), st[k]? = some (i, s) → W.cell? ⟨g, k * 2, none⟩ = some (.int .i64 (i : Int)) ∧ ∃ b c, W.cell? ⟨g, k * 2 + 1, none⟩ = some (.slice (some ⟨b, 0, none⟩) 4 c) ∧ base ≤ b ∧ BInts W b s
theorem StepsAt.same {W W' : World} {base : Nat} {a : Option Addr} {st : List (Nat × List Int)} (h : StepsAt W base a st) (hs : W.heap.size ≤ W'.heap.size) (e : ∀ b, base ≤ b → b < W.heap.size → W'.heap[b]? = W.heap[b]?) : StepsAt W' base a st := by
  rcases h with h | ⟨g, ea, hge, hlt, hc⟩
  · exact .inl h
  · have hg := e g hge hlt
    refine .inr ⟨g, ea, hge, Nat.lt_of_lt_of_le hlt hs, fun k i s hk => ?_⟩
    obtain ⟨h1, b, c, h2, h3, h4⟩ := hc k i s hk
    exact ⟨(World.cell?_of_block (a := ⟨g, _, none⟩) hg).trans h1, b, c, (World.cell?_of_block (a := ⟨g, _, none⟩) hg).trans h2, h3, h4.same (e b h3 h4.lt)⟩
theorem StepsAt.below {W W' : World} {base B : Nat} {a : Option Addr} {st : List (Nat × List Int)} (h : StepsAt W base a st) (hb : Below B W W') (hB : W.heap.size ≤ B) : StepsAt W' base a st :=
  h.same hb.size fun b _ hlt => hb.block b (by omega)
/-- A cell below base is written. -/
theorem StepsAt.put {W : World} {base : Nat} {a : Option Addr} {st : List (Nat × List Int)} (h : StepsAt W base a st) {g : Nat} (hg : g < base) (j : Nat) (v : Value) : StepsAt (W.setCell ⟨g, j, none⟩ v) base a st :=
  h.same (by simp) fun b hb _ => Below.heap_setCell W ⟨g, j, none⟩ v b (by show b ≠ g; omega)
theorem StepsAt.at_ {W : World} {base : Nat} {a : Option Addr} {st : List (Nat × List Int)} (h : StepsAt W base a st) {k : Nat} (hk : k < st.length) : ∃ g i s b c, a = some ⟨g, 0, none⟩ ∧ st[k]? = some (i, s) ∧ W.cell? ⟨g, k * 2, none⟩ = some (.int .i64 (i : Int)) ∧ W.cell? ⟨g, k * 2 + 1, none⟩ = some (.slice (some ⟨b, 0, none⟩) 4 c) ∧ IntsAt W (some ⟨b, 0, none⟩) s := by
  obtain ⟨g, e, _, hlt, hc⟩ := h.resolve_left (by rintro rfl; simp at hk)
  obtain ⟨⟨i, s⟩, hx⟩ := get_of_lt hk
  obtain ⟨h1, b, c, h2, _, h3⟩ := hc k i s hx
  exact ⟨g, i, s, b, c, e, hx, h1, h2, h3.at_⟩
/-- What trace answers. -/
def GivesTrace (st : List (Nat × List Int)) (s : List Int) (w : World) (e : Ending) (w' : World) : Prop :=
  ∃ a c b cb, e = .returned (.tuple #[.slice a st.length c, .slice (some ⟨b, 0, none⟩) 4 cb]) ∧ StepsAt w' w.heap.size a st ∧ BInts w' b s ∧ w.heap.size ≤ b ∧ Below w.heap.size w w'

theorem TrI.gives {N cN : Nat} {w : World} {v : Value} {s : List Int} {acc : List (Nat × List Int)} {xs : List Value} {W : World} (h : TrI N cN w v s acc xs W) : GivesTrace acc s w (.returned (.tuple #[v, .slice (some ⟨N, 0, none⟩) 4 cN])) W := by
  obtain ⟨a, c, rfl⟩ := own_slice h.out
  refine ⟨a, c, N, cN, rfl, ?_, bints_of_own h.now, own_base' h.now, h.below⟩
  rcases Nat.eq_zero_or_pos acc.length with h0 | h0
  · exact .inl (List.eq_nil_of_length_eq_zero h0)
  · obtain ⟨g, rfl⟩ := own_form h.out h0
    refine .inr ⟨g, rfl, own_base' h.out, own_lt h.out, fun k i t hk => ?_⟩
    obtain ⟨h1, b, c', h2, h3, h4, h5, h6⟩ := h.st k i t hk
    exact ⟨own_cell h.out h1, b, c', own_cell h.out h2, h3, h6⟩

theorem info_step : (Tryz.prog.info? 187).map (fun i => (i.zero, i.size, i.bytes)) = some (some (.agg #[.int .i64 0, .slice none 0 0]), 2, 32) := by kernel_rfl

end Go.Proofs.YtikblaebfpdngaaGreat

/- trace of the document's answers: contract. -/
set_option linter.unusedVariables false
set_option linter.unusedSimpArgs false
namespace Go.Proofs.YtikblaebfpdngaaGreat
open Go.RowKit Tinker

theorem wr_op {l : L} : Tinker.wr l = true ↔ l.op ≠ 0 ∧ l.op ≠ 7 := by simp [Tinker.wr]
theorem cell_two_new (w : World) (x y : Value) (t : TypeId) : ∀ j u, [x, y][j]? = some u → (w.alloc (.cells #[x, y] t)).cell? ((⟨w.heap.size, 0, none⟩ : Addr).add j) = some u := by
  intro j u hj
  match j, hj with
  | 0, hj => simp at hj; subst hj; simp [Addr.add]
  | 1, hj => simp at hj; subst hj; simp [Addr.add]
  | j + 2, hj => simp at hj

/-- In a round: the line l lies in block Lb. -/
structure TrL (Lb : Nat) (l : L) (N cN : Nat) (w : World) (v : Value) (s : List Int) (acc : List (Nat × List Int)) (xs : List Value) (W : World) : Prop where
  i : TrI N cN w v s acc xs W
  bl : W.heap[Lb]? = some (.cells #[.int .i64 l.op, .int .i64 l.to, .int .i64 l.a, .int .i64 l.b] 56 (0, 0))
  ne : Lb ≠ N
theorem TrL.low {Lb : Nat} {l : L} {N cN : Nat} {w : World} {v : Value} {s : List Int} {acc : List (Nat × List Int)} {xs : List Value} {W W' : World} (h : TrL Lb l N cN w v s acc xs W) (hb : Below W.heap.size W W') : TrL Lb l N cN w v s acc xs W' :=
  ⟨h.i.low hb, hp_below h.bl hb (hp_lt h.bl), h.ne⟩
theorem TrL.drewN {Lb : Nat} {l : L} {N cN : Nat} {w : World} {v : Value} {s : List Int} {acc : List (Nat × List Int)} {xs : List Value} {W : World} (h : TrL Lb l N cN w v s acc xs W) (n : Nat) : TrL Lb l N cN w v s acc xs (W.drewN n) :=
  h.low ⟨rfl, rfl, rfl, Nat.le_refl _, fun _ _ => rfl⟩
theorem TrL.get {Lb : Nat} {l : L} {N cN : Nat} {w : World} {v : Value} {s : List Int} {acc : List (Nat × List Int)} {xs : List Value} {W : World} (h : TrL Lb l N cN w v s acc xs W) (n : Int) (h0 : 0 ≤ n) (h3 : n ≤ 3) : W.cell? ⟨N, n.toNat, none⟩ = some (.int .i64 (rg s n)) := by
  have hl := h.i.slt
  obtain ⟨x, hx⟩ := get_of_lt (show n.toNat < s.length by omega)
  refine own_cell h.i.now ?_
  rw [List.getElem?_map, hx]
  unfold rg
  rw [getD_of_get hx]; rfl

theorem nxt_skip {l : L} {s : List Int} {i : Nat} (h : skips l s = true) : nxt l s i = i + 1 + l.to.toNat := by unfold nxt; rw [h]; rfl
theorem nxt_step {l : L} {s : List Int} {i : Nat} (h : skips l s = false) : nxt l s i = i + 1 := by unfold nxt; rw [h]; rfl
theorem fL_ok {ls vs : List Int} (hn : vs.length = ls.length) (hb : ∀ n ∈ vs, -999 ≤ n ∧ n ≤ 999) {i : Nat} {n : Int} (h : fL ls vs i = some n) : -999 ≤ n ∧ n ≤ 999 := by
  obtain ⟨j, h1, h2, h3⟩ := fLk_some h
  obtain ⟨x, hx⟩ := get_of_lt (show j < vs.length by omega)
  rw [getD_of_get hx] at h3
  subst h3
  exact hb _ (mem_of_get hx)

set_option maxRecDepth 100000 in
set_option maxHeartbeats 4000000 in
theorem trace_any (a b a2 a3 : Option Addr) (ca cb c2 c3 : Nat) (ps : List L) (s0 ls vs : List Int) (w : World) (hp : LinesAt w a ps) (hs : IntsAt w b s0) (hls : IntsAt w a2 ls) (hvs : IntsAt w a3 vs)
    (h8 : ps.length ≤ 8) (hv : ∀ l ∈ ps, isLn l = true) (hok : okS s0) (hn : vs.length = ls.length) (hbd : ∀ n ∈ vs, -999 ≤ n ∧ n ≤ 999) (hm : ls.length ≤ 1000) :
    Calls Tryz.prog 167 #[.slice a ps.length ca, .slice b 4 cb, .slice a2 ls.length c2, .slice a3 ls.length c3] w (GivesTrace (tr ps (fL ls vs) 0 s0).1 (tr ps (fL ls vs) 0 s0).2 w) := by
  obtain ⟨i0, hi, hz0, hz1, hz2⟩ := info_parts info_int
  obtain ⟨j0, hj, jz0, jz1, jz2⟩ := info_parts info_step
  obtain ⟨bb, bo, rfl, hbl, hbc⟩ := hs.resolve_left (by rintro rfl; have := hok.1; simp at this)
  have HS := Lib.hid hbc
  have H4 := Lib.hid hok.1
  have hown0 := World.ownsRow_lit (base := w.heap.size) (e := 3) (size := 1) w #[] 0 (Nat.le_refl _) (by simp [maxLen]) (by simp)
  clear hs hbc
  go_enter Tryz.func167, Tryz.ntmps167
  go_upto_region 2 with fail
  go_cut [11] (fun s11 wx => ∃ N cN, s11 = .slice (some ⟨N, 0, none⟩) 4 cN ∧ TrI N cN w (.slice none 0 0) s0 [] [] wx)
  case first =>
    go_wp2_with (at_builtin; (refine wpList_append_own _ rfl (.tmp 16) (.tmp 17) 24 rfl w.heap.size 3 i0 (.int .i64 0) 1 8 Tryz.underlying24 hi hz0 hz1 hz2 rfl (by decide) _ 0 [] rfl hown0 ⟨bb, bo, none⟩ 4 cb (s0.map (Value.int .i64)) rfl ?c1 ?c2 ?c3 ?c4 ?c5 ?c6 ?_))
    case c1 => simp [H4.out]
    case c2 => exact fun j z hz => HS.out j z hz
    case c3 => simp [Value.oneCell']
    case c4 => simp [maxLen]
    intro v' w1 hown1 hgrow _
    have hB : Below w.heap.size w w1 := ((Below.refl _ _).alloc (Nat.le_refl _) _).grown hgrow (by simp) (by rintro k hk; simp [Value.ownBlock] at hk; omega)
    obtain ⟨g, c, rfl⟩ := own_slice hown1
    obtain ⟨N, rfl⟩ := own_form hown1 (by omega)
    have hI : TrI N c w (.slice none 0 0) s0 [] [] w1 := ⟨hown1, World.ownsRow_nil _ _ _ _, by simp [Value.ownBlock], fun k i s hk => by simp at hk, hB⟩
    have HI := Lib.hid hI
    clear hown1 hown0 hgrow hI
    go_wp2_with fail
    go_meet
    exact ⟨N, c, rfl, HI.out⟩
  case rest =>
    obtain ⟨N, cN, rfl, hI⟩ := hcut
    clear hown0 HS H4
    go_wp2_with fail
    go_loopw [10, 12] (fun s10 s12 wr => ∃ (i : Nat) (s : List Int) (acc : List (Nat × List Int)) (xs : List Value) (v0 : Value), s10 = v0 ∧ s12 = .int .i64 i ∧ i ≤ 16 ∧ (tr ps (fL ls vs) 0 s0).1 = acc ++ (tr ps (fL ls vs) i s).1 ∧ (tr ps (fL ls vs) 0 s0).2 = (tr ps (fL ls vs) i s).2 ∧ okS s ∧ acc.length ≤ i ∧ TrI N cN w v0 s acc xs wr) (fun _ s12 _ => ps.length - (intOf s12).toNat)
    case atStart => exact ⟨0, s0, [], [], _, rfl, rfl, by omega, rfl, rfl, hok, by simp, hI⟩
    case round =>
      obtain ⟨i, s, acc, xs, v0, hv0, rfl, hi16, ht1, ht2, hsok, hai, hR⟩ := hrel
      have hv0' := hv0.symm
      subst hv0'
      clear hI
      have HT1 := Lib.hid ht1
      have HT2 := Lib.hid ht2
      have HOK := Lib.hid hsok
      clear ht1 ht2
      by_cases hlt : i < ps.length
      · go_upto_region 5 with fail
        go_cut [10] (fun s10 wx => ∃ v xs', s10 = v ∧ TrI N cN w v s (acc ++ [(i, s)]) xs' wx)
        case first =>
          have hown1 := World.ownsRow_lit (base := wr.heap.size) (e := 3) (size := 1) wr #[] 0 (Nat.le_refl _) (by simp [maxLen]) (by simp)
          have HS := Lib.hid (bints_of_own hR.now).at_.cells
          have hs4 := hR.slt
          have HR := Lib.hid hR
          clear hR
          go_wp2_with (at_builtin; (refine wpList_append_own _ rfl (.tmp 25) (.tmp 26) 24 rfl wr.heap.size 3 i0 (.int .i64 0) 1 8 Tryz.underlying24 hi hz0 hz1 hz2 rfl (by decide) _ 0 [] rfl hown1 ⟨N, 0, none⟩ 4 cN (s.map (Value.int .i64)) rfl ?g1 ?g2 ?g3 ?g4 ?g5 ?g6 ?_))
          case g2 => exact fun j z hz => cell_alloc_keep (own_cell HR.out.now (v := .int .i64 z) (by simp [hz]))
          case g3 => simp [Value.oneCell']
          case g4 => simp [maxLen]
          intro v' w1 hown2 hgrow _
          have hB : Below wr.heap.size wr w1 := ((Below.refl _ _).alloc (Nat.le_refl _) _).grown hgrow (by simp) (by rintro k hk; simp [Value.ownBlock] at hk; omega)
          obtain ⟨g, c, rfl⟩ := own_slice hown2
          obtain ⟨B, rfl⟩ := own_form hown2 (by omega)
          have hI1 := HR.out.low hB
          have hbi := bints_of_own hown2
          have hBge := own_base' hown2
          have hNlt := own_lt HR.out.now
          have hvlt : v0.ownBlock ≠ some B := fun e => by have := own_val_lt HR.out.out e; omega
          have hwlt := HR.out.below.size
          have HI1 := Lib.hid (hI1.alloc (.cells #[.int .i64 i, .slice (some ⟨B, 0, none⟩) 4 c] 187))
          have HBI := Lib.hid (hbi.same (W' := w1.alloc (.cells #[.int .i64 i, .slice (some ⟨B, 0, none⟩) 4 c] 187)) (((Below.refl w1.heap.size w1).alloc (Nat.le_refl _) _).block _ hbi.lt))
          have hw1 := hI1.below.size
          clear hown1 hown2 hgrow hI1 hB hbi HR
          go_wp2_with (at_builtin; (refine wpList_append_own_at _ rfl (.tmp 23) (.tmp 29) 180 rfl w.heap.size 187 j0 (.agg #[.int .i64 0, .slice none 0 0]) 2 32 Tryz.underlying180 hj jz0 jz1 jz2 rfl (by decide) _ acc.length xs rfl HI1.out.out ⟨w1.heap.size, 0, none⟩ 1 1 [.int .i64 i, .slice (some ⟨B, 0, none⟩) 4 c] rfl ?d1 ?d2 ?d3 ?d4 ?d5 ?d6 ?_))
          case d1 => rfl
          case d2 => intro j u hu; exact cell_two_new _ _ _ _ j u hu
          case d3 => simp [Value.oneCell']
          case d4 => simp [maxLen]; omega
          case d5 => omega
          case d6 => simp; omega
          intro v2 w3 hown3 hgrow2 _ hat
          have HP := Lib.hid (HI1.out.push HBI.out (by omega) (by omega) hvlt hown3 hgrow2 (by simpa using hat))
          clear hown3 hgrow2 hat
          go_wp2_with fail
          go_meet
          exact ⟨_, _, rfl, HP.out⟩
        case rest =>
          obtain ⟨v1, xs1, hv1, hI⟩ := hcut
          have hv1' := hv1.symm
          subst hv1'
          clear hR
          obtain ⟨pb, off, l, rfl, hlb, hl, h0, h1, h2, h3⟩ := (hp.below hI.below (Nat.le_refl _)).at_ hlt
          have HL := Lib.hid hl
          have hli := hv l (mem_of_get hl)
          clear hl
          go_upto_region 6 with fail
          go_cut [13] (fun s13 wx => ∃ Lb : Nat, s13 = .pointer (some ⟨Lb, 0, none⟩) ∧ TrL Lb l N cN w v1 s (acc ++ [(i, s)]) xs1 wx)
          case first =>
            have hNlt := own_lt hI.now
            have HI := Lib.hid hI
            clear hI
            go_wp2_with fail
            go_meet
            exact ⟨_, rfl, HI.out.alloc _, hp_new rfl, by omega⟩
          case rest =>
            clear hI h0 h1 h2 h3 hlb
            obtain ⟨Lb, rfl, hT⟩ := hcut
            go_upto_region 8 with fail
            go_cut [52] (fun s52 wx => s52 = .bool (skips l s) ∧ TrL Lb l N cN w v1 s (acc ++ [(i, s)]) xs1 wx)
            case first =>
              have c0 := hp_cell hT.bl (j := 0) (by rfl)
              have c1 := hp_cell hT.bl (j := 1) (by rfl)
              have c2 := hp_cell hT.bl (j := 2) (by rfl)
              have c3 := hp_cell hT.bl (j := 3) (by rfl)
              by_cases h7 : l.op = 7
              · obtain ⟨a0, a3⟩ := isLn_a hli (by omega)
                obtain ⟨b0, b3⟩ := isLn_b hli (by omega)
                have a4 : l.a < 4 := by omega
                have b4 : l.b < 4 := by omega
                have e1 := hT.get l.a a0 a3
                have e2 := hT.get l.b b0 b3
                have g7 : (l.op == 7) = true := by simpa using h7
                have HX := Lib.hid (show skips l s = decide (rg s l.a < rg s l.b) by unfold skips; rw [g7]; rfl)
                have HT := Lib.hid hT
                clear hT
                go_quiet (fail)
                go_wp2_with fail
                go_meet
                exact ⟨by rw [HX.out], HT.out.drewN _⟩
              · have g7 : (l.op == 7) = false := by simpa using h7
                have HX := Lib.hid (show skips l s = false by unfold skips; rw [g7]; rfl)
                have HT := Lib.hid hT
                clear hT h7
                go_quiet (fail)
                go_wp2_with fail
                go_meet
                exact ⟨by rw [HX.out], HT.out.drewN _⟩
            case rest =>
            clear hT
            obtain ⟨rfl, hT⟩ := hcut
            go_upto_if 52 with fail
            go_cut [12] (fun s12 wx => ∃ nx : Nat, nx = nxt l s i ∧ s12 = .int .i64 nx ∧ TrL Lb l N cN w v1 s (acc ++ [(i, s)]) xs1 wx)
            case first =>
              have c1 := hp_cell hT.bl (j := 1) (by rfl)
              cases hsk : skips l s
              · have HX := Lib.hid (nxt_step (i := i) hsk)
                have HT := Lib.hid hT
                clear hT hsk
                go_wp2_with fail
                go_meet
                exact ⟨_, rfl, by rw [HX.out]; exact congrArg _ (by omega), HT.out⟩
              · have h7 : l.op = 7 := by unfold skips at hsk; simp at hsk; exact hsk.1
                obtain ⟨t0, t8⟩ := isLn_skip hli h7
                have HX := Lib.hid (nxt_skip (i := i) hsk)
                have HT := Lib.hid hT
                clear hT hsk
                go_wp2_with fail
                go_meet
                exact ⟨_, rfl, by rw [HX.out]; exact congrArg _ (by omega), HT.out⟩
            case rest =>
              clear hT
              obtain ⟨nx, hnx, rfl, hT⟩ := hcut
              have c0 := hp_cell hT.bl (j := 0) (by rfl)
              have c1 := hp_cell hT.bl (j := 1) (by rfl)
              have c2 := hp_cell hT.bl (j := 2) (by rfl)
              have c3 := hp_cell hT.bl (j := 3) (by rfl)
              have hn17 : nx ≤ 16 := by
                rw [hnx]; unfold nxt
                split
                · rename_i hsk
                  have h7 : l.op = 7 := by unfold skips at hsk; simp at hsk; exact hsk.1
                  have := isLn_skip hli h7; omega
                · omega
              have hgt : i < nx := by rw [hnx]; exact nxt_gt l s i
              have HTR := Lib.hid (show (tr ps (fL ls vs) 0 s0).1 = (acc ++ [(i, s)]) ++ (tr ps (fL ls vs) nx (stp l s (fL ls vs i))).1 ∧ (tr ps (fL ls vs) 0 s0).2 = (tr ps (fL ls vs) nx (stp l s (fL ls vs i))).2 by
                rw [HT1.out, HT2.out, tr_lt HL.out, hnx]; exact ⟨by simp, rfl⟩)
              have HNX := Lib.hid hnx
              clear hnx
              go_wp2_with fail
              refine (rWrites_any l _).mono ?_
              rintro e w1 ⟨rfl, hB⟩
              replace hT := hT.low hB
              clear c0 c1 c2 c3 hB
              cases hw : Tinker.wr l
              · have HE := Lib.hid (show stp l s (fL ls vs i) = s by unfold stp; rw [hw]; rfl)
                have HT := Lib.hid hT
                clear hT hw
                go_wp2_with fail
                go_roundw
                case rel => exact ⟨nx, s, acc ++ [(i, s)], xs1, _, rfl, rfl, hn17, by have := HTR.out.1; rwa [HE.out] at this, by have := HTR.out.2; rwa [HE.out] at this, HOK.out, by simp; omega, HT.out.i⟩
                case measure => simp [intOf]; omega
              · have hnx1 : nx = i + 1 := by rw [HNX.out]; exact nxt_step (by unfold skips; have := hw; unfold Tinker.wr at this; simp at this; simp [this.2])
                have c0 := hp_cell hT.bl (j := 0) (by rfl)
                have c1 := hp_cell hT.bl (j := 1) (by rfl)
                have c2 := hp_cell hT.bl (j := 2) (by rfl)
                have c3 := hp_cell hT.bl (j := 3) (by rfl)
                have HW := Lib.hid hw
                clear hw
                go_wp2_with fail
                refine (value_any l s (some ⟨N, 0, none⟩) cN _ hli HW.out (bints_of_own hT.i.now).at_ HOK.out).mono ?_
                rintro e w2 ⟨rfl, hB⟩
                replace hT := hT.low hB
                clear c0 c1 c2 c3 hB
                have HLS := Lib.hid (hls.below hT.i.below (Nat.le_refl _))
                have HVS := Lib.hid (hvs.below hT.i.below (Nat.le_refl _))
                generalize hval : cutv (Tinker.valOf l s) = val
                have HVAL := Lib.hid hval
                have HT := Lib.hid hT
                clear hT hval
                go_wp2_with fail
                go_loop [14, 15] (fun s14 s15 => ∃ q : Nat, q ≤ ls.length ∧ s15 = .int .i64 q ∧ s14 = .int .i64 ((fLk ls vs q i).getD val)) (fun _ s15 => ls.length - (intOf s15).toNat)
                case atStart => exact ⟨0, Nat.zero_le _, rfl, rfl⟩
                case round =>
                  obtain ⟨q, hq, rfl, rfl⟩ := hrel
                  by_cases hlt2 : q < ls.length
                  · obtain ⟨lb, lo, z, rfl, hlb, hz, hzc⟩ := HLS.out.at_ hlt2
                    by_cases hzi : z = (i : Int)
                    · obtain ⟨vb, vo, y, rfl, hvb, hy, hyc⟩ := HVS.out.at_ (show q < vs.length by omega)
                      have HF := Lib.hid (show (fLk ls vs (q + 1) i).getD val = y by unfold fLk; rw [if_pos (by rw [getD_of_get hz]; exact hzi), getD_of_get hy]; rfl)
                      clear hz hy
                      go_wp2_with fail
                      go_round
                      case rel => exact ⟨q + 1, by omega, by go_num, by rw [HF.out]⟩
                      case measure => simp [intOf]; omega
                    · have HF := Lib.hid (show (fLk ls vs (q + 1) i).getD val = (fLk ls vs q i).getD val by rw [fLk, if_neg (by rw [getD_of_get hz]; exact hzi)])
                      clear hz
                      generalize (fLk ls vs q i).getD val = cur at HF
                      go_wp2_with fail
                      go_round
                      case rel => exact ⟨q + 1, by omega, by go_num, by rw [HF.out]⟩
                      case measure => simp [intOf]; omega
                  · have hqe : q = ls.length := by omega
                    subst hqe
                    have HE := Lib.hid (show stp l s (fL ls vs i) = s.set l.to.toNat ((fLk ls vs ls.length i).getD val) by unfold stp; rw [HW.out, HVAL.out]; rfl)
                    have HOK2 := Lib.hid (okS_stp (l := l) (o := fL ls vs i) HOK.out fun m hm => fL_ok hn hbd hm)
                    obtain ⟨t0, t3⟩ := isLn_to hli (by have := wr_op.1 HW.out; have := isLn_op hli; omega) (by have := wr_op.1 HW.out; have := isLn_op hli; omega)
                    have t4 : l.to < 4 := by omega
                    have c1 := hp_cell HT.out.bl (j := 1) (by rfl)
                    have e1 := HT.out.get l.to t0 t3
                    have e2 := own_free HT.out.i.now l.to.toNat
                    generalize (fLk ls vs ls.length i).getD val = cur at HE
                    go_wp2_with fail
                    go_roundw
                    case rel => exact ⟨nx, s.set l.to.toNat cur, acc ++ [(i, s)], xs1, _, rfl, congrArg _ (by omega), hn17, by have := HTR.out.1; rwa [HE.out] at this, by have := HTR.out.2; rwa [HE.out] at this, by have := HOK2.out; rwa [HE.out] at this, by simp; omega, HT.out.i.put _ _⟩
                    case measure => simp [intOf]; omega
      · obtain ⟨hn1, hn2⟩ : (tr ps (fL ls vs) i s).1 = [] ∧ (tr ps (fL ls vs) i s).2 = s := by rw [tr_ge (by omega)]; exact ⟨rfl, rfl⟩
        have HG := Lib.hid (show GivesTrace (tr ps (fL ls vs) 0 s0).1 (tr ps (fL ls vs) 0 s0).2 w (.returned (.tuple #[v0, .slice (some ⟨N, 0, none⟩) 4 cN])) wr by
          rw [HT1.out, HT2.out, hn1, hn2, List.append_nil]; exact hR.gives)
        clear hn1 hn2 hR
        go_wp2_with fail
        go_ret2
        exact HG.out

end Go.Proofs.YtikblaebfpdngaaGreat
