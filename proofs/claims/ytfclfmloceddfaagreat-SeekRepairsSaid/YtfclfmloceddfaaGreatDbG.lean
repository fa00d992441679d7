/- Several texts in one. -/
import Derived.Test.YtfclfmloceddfaaGreatDbD
import Derived.Test.YtfclfmloceddfaaGreatDbB
import Derived.Test.YtfclfmloceddfaaGreatRtm
/- The templates of all lines, in memory, as the document lists them. -/
set_option linter.unusedVariables false
set_option linter.unusedSimpArgs false
namespace Go.Proofs.YtfclfmloceddfaaGreat
open Go.RowKit Go.Shelf Tinker

theorem own_neD {W : World} {b1 b2 n1 n2 k1 k2 : Nat} {e1 e2 : TypeId} {v1 v2 : Value} {x1 x2 : List Value} (h1 : W.ownsRow b1 e1 k1 v1 n1 x1) (h2 : W.ownsRow b2 e2 k2 v2 n2 x2) (he : e1 ≠ e2) : v2.ownBlock = none ∨ v2.ownBlock ≠ v1.ownBlock := by
  rcases h2.2 with ⟨rfl, _⟩ | ⟨g2, c2, cur2, rfl, _, hg2, _⟩
  · exact .inl rfl
  · rcases h1.2 with ⟨rfl, _⟩ | ⟨g1, c1, cur1, rfl, _, hg1, _⟩
    · exact .inr (by simp [Value.ownBlock])
    · refine .inr fun h => ?_
      have e : g2 = g1 := by simpa [Value.ownBlock] using h
      subst e
      rw [hg1] at hg2
      injection hg2 with h3
      injection h3 with _ h4
      exact he h4
/-- An own list of own lists of lines: those of Z, of the first places. -/
structure NearI (w : World) (Z : Nat → List L) (k : Nat) (v : Value) (xs : List Value) (W : World) : Prop where
  own : W.ownsRow w.heap.size 22 1 v k xs
  rows : ∀ i, i < k → ∃ (a : Option Addr) (c : Nat), xs[i]? = some (Value.slice a (Z i).length c) ∧ W.ownsRow w.heap.size 42 4 (.slice a (Z i).length c) (Z i).length (lc (Z i))
  below : Below w.heap.size w W
theorem NearI.nil {w : World} {Z : Nat → List L} {W : World} (h : Below w.heap.size w W) : NearI w Z 0 (.slice none 0 0) [] W := ⟨World.ownsRow_nil _ _ _ _, fun i hi => by omega, h⟩
theorem NearI.low {w : World} {Z : Nat → List L} {k : Nat} {v : Value} {xs : List Value} {W W' : World} (h : NearI w Z k v xs W) (hb : Below W.heap.size W W') : NearI w Z k v xs W' :=
  ⟨own_below h.own hb (Nat.le_refl _), fun i hi => by
    obtain ⟨a, c, h1, h2⟩ := h.rows i hi
    exact ⟨a, c, h1, own_below h2 hb (Nat.le_refl _)⟩, h.below.trans (hb.mono h.below.size)⟩
theorem NearI.push {w : World} {Z : Nat → List L} {k : Nat} {v v' : Value} {xs : List Value} {W W3 : World} {a : Option Addr} {c n : Nat} (h : NearI w Z k v xs W) (hn : (Z k).length = n)
    (hz : W.ownsRow w.heap.size 42 4 (.slice a n c) n (lc (Z k)))
    (hown : W3.ownsRow w.heap.size 22 1 v' (k + 1) (xs ++ [.slice a n c])) (hgrow : W.grownBy W3 v.ownBlock) : NearI w Z (k + 1) v' (xs ++ [.slice a n c]) W3 := by
  subst hn
  have hl : xs.length = k := by simpa using h.own.1
  have hk : ∀ {a : Option Addr} {n c : Nat} {ys : List Value}, W.ownsRow w.heap.size 42 4 (.slice a n c) n ys → W3.ownsRow w.heap.size 42 4 (.slice a n c) n ys := fun hq => hq.kept hgrow (own_neD h.own hq (by decide))
  refine ⟨hown, fun i hi => ?_, h.below.grown hgrow h.below.size (own_base h.own)⟩
  by_cases e : i < k
  · obtain ⟨a', c', h1, h2⟩ := h.rows i e
    exact ⟨a', c', by rw [List.getElem?_append_left (by omega)]; exact h1, hk h2⟩
  · obtain rfl : i = k := by omega
    exact ⟨a, c, by rw [List.getElem?_append_right (by omega), hl]; simp, hk hz⟩
/-- The lists of lines, as they are read. -/
def NearAt (W : World) (g : Nat) (Z : Nat → List L) (n : Nat) : Prop := g < W.heap.size ∧ ∀ i, i < n → ∃ (a : Option Addr) (c : Nat), W.cell? ⟨g, i, none⟩ = some (.slice a (Z i).length c) ∧ LinesAt W a (Z i)
theorem NearAt.below {W W' : World} {g : Nat} {Z : Nat → List L} {n : Nat} (h : NearAt W g Z n) (hb : Below W.heap.size W W') : NearAt W' g Z n :=
  ⟨Nat.lt_of_lt_of_le h.1 hb.size, fun i hi => by
    obtain ⟨a, c, h1, h2⟩ := h.2 i hi
    exact ⟨a, c, (hb.cell (p := ⟨g, i, none⟩) h.1).trans h1, h2.below hb (Nat.le_refl _)⟩⟩
theorem NearI.at_ {w : World} {Z : Nat → List L} {k g c : Nat} {xs : List Value} {W : World} (h : NearI w Z k (.slice (some ⟨g, 0, none⟩) k c) xs W) : NearAt W g Z k :=
  ⟨own_lt h.own, fun i hi => by
    obtain ⟨a, c', h1, h2⟩ := h.rows i hi
    exact ⟨a, c', own_cell h.own h1, (lines_of_own h2).1⟩⟩
theorem cnd_tmplD (ps : List L) (i : Nat) : cndL ps i 0 = tmpl (lnD ps i) := by
  rw [cnd_filter]
  unfold tmpl
  refine List.filter_congr fun m _ => ?_
  unfold isKd
  rw [if_pos rfl]
  cases hn : nearB (lnD ps i) m
  · rfl
  · rw [eqL_false (near_ne hn)]
    rfl
/-- The best pair so far, as the document holds it: how many fields it changes, and its edits. -/
def bestL (o : Option ((E × E) × Int)) : List E := match o with
  | none => []
  | some (z, _) => pE z
def bestS (o : Option ((E × E) × Int)) : Int := match o with
  | none => -1
  | some (_, s) => s
structure BestI (o : Option ((E × E) × Int)) (v : Value) (W : World) : Prop where
  ex : ∃ (g : Option Addr) (c : Nat), v = .slice g (bestL o).length c ∧ EditsAt W g (bestL o)
theorem BestI.below {o : Option ((E × E) × Int)} {v : Value} {W W' : World} (h : BestI o v W) (hb : Below W.heap.size W W') : BestI o v W' := by
  obtain ⟨g, c, h1, h2⟩ := h.ex
  exact ⟨g, c, h1, h2.below hb (Nat.le_refl _)⟩

end Go.Proofs.YtfclfmloceddfaaGreat

/- The document's loops over pairs: what is best after each step. -/
set_option linter.unusedVariables false
set_option linter.unusedSimpArgs false
namespace Go.Proofs.YtfclfmloceddfaaGreat
open Go.RowKit Go.Shelf Tinker

theorem pE_ok2 {ps : List L} {k m : Nat} {x y : L} (hv : vp ps = 0) (hk : k < m) (hm : m < ps.length) (hx : x ∈ cndL ps k 0) (hy : y ∈ cndL ps m 0) : vpx ps (pE ((⟨(k : Int), x⟩ : E), (⟨(m : Int), y⟩ : E))) 0 = 0 := by
  have h8 := (vp_ok hv).1
  have hx0 : vx (pE ((⟨(k : Int), x⟩ : E), (⟨(m : Int), y⟩ : E))) = 0 := vx_0 (by simp [pE]) (by
    show isSetB [(k : Int), (m : Int)] = true
    rw [isSetB_iff]
    intro i hi
    have : i = 0 := by simp at hi; omega
    subst this
    show (k : Int) < (m : Int)
    omega) (fun e he => by
    have he' : e = ⟨(k : Int), x⟩ ∨ e = ⟨(m : Int), y⟩ := by simpa [pE] using he
    rw [Bool.and_eq_true]
    rcases he' with rfl | rfl
    · exact ⟨btw_true.2 ⟨by show (0 : Int) ≤ (k : Int); omega, by show (k : Int) ≤ 7; omega⟩, cnd_ln hx⟩
    · exact ⟨btw_true.2 ⟨by show (0 : Int) ≤ (m : Int); omega, by show (m : Int) ≤ 7; omega⟩, cnd_ln hy⟩)
  unfold vpx
  rw [hv, hx0]
  show (if allBtw [(k : Int), (m : Int)] 0 ((ps.length : Int) - 1) then (0 : Int) else 4) = 0
  rw [if_pos]
  unfold allBtw
  rw [List.all_eq_true]
  intro x hx
  have hx' : x = (k : Int) ∨ x = (m : Int) := by simpa using hx
  rcases hx' with rfl | rfl
  · exact btw_true.2 ⟨by omega, by omega⟩
  · exact btw_true.2 ⟨by omega, by omega⟩
theorem dmT_pos {ps : List L} {ts : List T} {o : Option ((E × E) × Int)} {z : E × E} (h : ∀ y s, o = some (y, s) → 0 ≤ s) : ∀ y s, dmT ps ts o z = some (y, s) → 0 ≤ s := by
  intro y s hy
  have hz := (szP_le ps z).1
  unfold dmT at hy
  cases o with
  | none =>
    dsimp only at hy
    split at hy
    · injection hy with hy; injection hy with _ hy; omega
    · cases hy
  | some q =>
    dsimp only at hy
    split at hy
    · exact h y s hy
    · split at hy
      · injection hy with hy; injection hy with _ hy; omega
      · exact h y s hy
theorem dmX_pos {ps : List L} {ts : List T} (zs : List (E × E)) : ∀ y s, dmX ps ts zs = some (y, s) → 0 ≤ s := by
  unfold dmX
  have key : ∀ (zs : List (E × E)) (o : Option ((E × E) × Int)), (∀ y s, o = some (y, s) → 0 ≤ s) → ∀ y s, zs.foldl (dmT ps ts) o = some (y, s) → 0 ≤ s := by
    intro zs
    induction zs with
    | nil => intro o h; exact h
    | cons z q ih => intro o h; exact ih _ (dmT_pos h)
  exact key zs none (fun y s h => by cases h)
/-- What is best behind the steps of the four loops. -/
def dp2 (ps : List L) (k j : Nat) : List (E × E) := prK (edL ps 0) ((edK ps 0 k).length + j)
def dpx (ps : List L) (k j : Nat) : E := ⟨(k : Int), (cndL ps k 0).getD j ⟨0, 0, 0, 0⟩⟩
def D2 (ps : List L) (ts : List T) (k j : Nat) : Option ((E × E) × Int) := dmX ps ts (dp2 ps k j)
def D3 (ps : List L) (ts : List T) (k j m : Nat) : Option ((E × E) × Int) := dmX ps ts (dp2 ps k j ++ prX (dpx ps k j) (edT ps (k + 1) m))
def D4 (ps : List L) (ts : List T) (k j m q : Nat) : Option ((E × E) × Int) := dmX ps ts (dp2 ps k j ++ prX (dpx ps k j) (edT ps (k + 1) m ++ ((cndL ps m 0).take q).map (fun l => (⟨(m : Int), l⟩ : E))))
theorem D2_zero (ps : List L) (ts : List T) : D2 ps ts 0 0 = none := rfl
theorem D2_next (ps : List L) (ts : List T) (k : Nat) : D2 ps ts k (cndL ps k 0).length = D2 ps ts (k + 1) 0 := by
  unfold D2 dp2
  rw [edK_succ, List.length_append, List.length_map, Nat.add_zero]
theorem D2_last (ps : List L) (ts : List T) : D2 ps ts ps.length 0 = dbO ps ts := by
  unfold D2 dp2 dbO prL
  rw [Nat.add_zero]; rfl
theorem D3_first (ps : List L) (ts : List T) (k j : Nat) : D3 ps ts k j (k + 1) = D2 ps ts k j := by
  unfold D3 D2
  rw [edT_self]
  show dmX ps ts (dp2 ps k j ++ prX (dpx ps k j) []) = _
  rw [show prX (dpx ps k j) [] = [] from rfl, List.append_nil]
theorem D3_last {ps : List L} (ts : List T) {k j : Nat} (hk : k < ps.length) (hj : j < (cndL ps k 0).length) : D3 ps ts k j ps.length = D2 ps ts k (j + 1) := by
  obtain ⟨x, hx⟩ := get_of_lt hj
  unfold D3 D2 dp2 dpx
  rw [getD_of_get hx, ← Nat.add_assoc, pr_step hk hx]
theorem D4_zero (ps : List L) (ts : List T) (k j m : Nat) : D4 ps ts k j m 0 = D3 ps ts k j m := by
  unfold D4 D3
  rw [List.take_zero, List.map_nil, List.append_nil]
theorem D4_last {ps : List L} (ts : List T) {k m : Nat} (j : Nat) (h : k + 1 ≤ m) : D4 ps ts k j m (cndL ps m 0).length = D3 ps ts k j (m + 1) := by
  unfold D4 D3
  rw [List.take_length, edT_succ ps h]
theorem D4_next {ps : List L} (ts : List T) {k j m q : Nat} {x y : L} (h : k + 1 ≤ m) (hx : (cndL ps k 0)[j]? = some x) (hy : (cndL ps m 0)[q]? = some y) :
    D4 ps ts k j m (q + 1) = dmT ps ts (D4 ps ts k j m q) ((⟨(k : Int), x⟩ : E), (⟨(m : Int), y⟩ : E)) := by
  unfold D4 dpx
  rw [getD_of_get hx, pr_next h hy, ← List.append_assoc, dmX_snoc]
theorem D4_pos (ps : List L) (ts : List T) (k j m q : Nat) : ∀ y s, D4 ps ts k j m q = some (y, s) → 0 ≤ s := dmX_pos _
theorem bestL_db (ps : List L) (ts : List T) : bestL (dbO ps ts) = dbL ps ts := by
  unfold bestL dbL
  cases dbO ps ts with
  | none => rfl
  | some y => rfl
theorem bestS_db (o : Option ((E × E) × Int)) (h : ∀ y s, o = some (y, s) → 0 ≤ s) : decide (0 ≤ bestS o) = o.isSome := by
  cases o with
  | none => rfl
  | some y =>
    obtain ⟨z, s⟩ := y
    have := h z s rfl
    show decide (0 ≤ s) = true
    exact decide_eq_true this
theorem dbO_pos (ps : List L) (ts : List T) : ∀ y s, dbO ps ts = some (y, s) → 0 ≤ s := dmX_pos _

end Go.Proofs.YtfclfmloceddfaaGreat
