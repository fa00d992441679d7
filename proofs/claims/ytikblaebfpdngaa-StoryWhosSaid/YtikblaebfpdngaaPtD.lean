/- Several texts in one. -/
import Derived.Test.YtikblaebfpdngaaPtS
import Derived.Maps.AppendAt
import Derived.Laws.AppendOwnNone
import Derived.Deep.DeepCutAuto
import Derived.Deep.RegionHeld
/- parts of patches: contract. -/
set_option linter.unusedVariables false
set_option linter.unusedSimpArgs false
namespace Go.Proofs.Ytikblaebfpdngaa
open Go.RowKit Tinker

/-- append to an own row: the row grows in place, or a new block is laid and all else stands. -/
theorem wp_append_new {w : World} {o : Oper} {a : Act} {K : Act → World → Prop} {Q : Exit → Act → World → Prop} (s x : Operand) (t : TypeId)
    (ho : o.op = .call { callee := .builtin .append, args := #[s, x], argTypes := #[t, t] })
    (base : Nat) (e : TypeId) (i : TypeInfo) (z : Value) (size bytes : Nat) (ht : Try.prog.underlying t = some (.slice e)) (hi : Try.prog.info? e = some i) (hz : i.zero = some z)
    (hsize : i.size = size) (hby : i.bytes = bytes) (hzs : z.cells.size = size) (hsz : 0 < size)
    (v : Value) (n : Nat) (xs : List Value) (hs : a.eval s = v) (hown : w.ownsRow base e size v n xs)
    (ad : Addr) (m c : Nat) (news : List Value) (hx : a.eval x = .slice (some ad) m c) (hl : news.length = m * size) (hnews : ∀ j u, news[j]? = some u → w.cell? (ad.add j) = some u) (h1 : ∀ u ∈ news, u.oneCell' = true)
    (h63 : n + m ≤ maxLen) (hbytes : (n + m) * bytes ≤ 140737488355328) (hbase : base ≤ w.heap.size)
    (h : ∀ v' w', w'.ownsRow base e size v' (n + m) (xs ++ news) → w.grownBy w' v.ownBlock → (v'.ownBlock = v.ownBlock ∨ v'.ownBlock = some w.heap.size ∧ w.grownBy w' none) → K (a.put o.dst v') w') : o.wp Try.prog a w K Q := by
  obtain ⟨v', w', hr, h2, h3, h4, h5⟩ := run_append_own_at (P := Try.prog) w base t o.type e i z size bytes ht hi hz hsize hby hzs hsz v n xs hown ad m c news hl hnews h1 h63 hbytes hbase
  have key : v'.ownBlock = v.ownBlock ∨ v'.ownBlock = some w.heap.size ∧ w.grownBy w' none := by
    rcases h5 with h5 | h5
    · exact .inl h5
    · right
      refine ⟨h5, ?_⟩
      rcases hown.2 with ⟨rfl, rfl⟩ | ⟨g, cap, cur, rfl, hbg, hg, hnc, hcm, hcs, htake⟩
      · exact h3
      · subst hsize
        subst hby
        have hgl := hp_lt hg
        by_cases hroom : n + m ≤ cap
        · exfalso
          have hfit : n * i.size + news.length ≤ cur.size := by rw [hl, hcs, ← Nat.add_mul]; exact Nat.mul_le_mul_right _ hroom
          have hr2 := run_append_room (P := Try.prog) w t o.type e i ht hi g n cap cur hg ad m c news hl hnews h1 hroom hfit
          rw [hr2] at hr
          injection hr with e1 e2
          subst e1
          have : some g = some w.heap.size := h5
          injection this with this
          omega
        · have holds : ∀ j u, xs[j]? = some u → w.cell? ((⟨g, 0, none⟩ : Addr).add j) = some u := hown.cells (g := g) rfl
          have hr2 := run_append_grow (P := Try.prog) w t o.type e i z ht hi hz ⟨g, 0, none⟩ n cap xs hown.1 holds ad m c news hl hnews (by omega) (by simp only [maxLen] at h63; omega) (growslice_fits (by omega) hbytes)
          rw [hr2] at hr
          injection hr with e1 e2
          subst e2
          exact ⟨rfl, rfl, rfl, by simp, fun k hk _ => heap_alloc_old w.drew _ hk⟩
  unfold Oper.wp execOp
  simp only [ho, resolve, invoke, builtin, Sem.run_bind, Sem.run_pure, Result.andThen_ok, List.map_toArray, List.map_cons, List.map_nil, hs, hx, hr]
  exact h v' w' h2 h3 key

/-- The cells of an edit. -/
def eV (e : E) : Array Value := #[.int .i64 e.at_, .int .i64 e.ln.op, .int .i64 e.ln.to, .int .i64 e.ln.a, .int .i64 e.ln.b]
theorem ec_sing (e : E) : ec [e] = [.int .i64 e.at_, .int .i64 e.ln.op, .int .i64 e.ln.to, .int .i64 e.ln.a, .int .i64 e.ln.b] := rfl

/-- The state inside the inner loop. -/
structure PtI (w : World) (B g0 n0 : Nat) (e : E) (v : Value) (fs : List (List E)) (xs : List Value) (W : World) : Prop where
  row : RowsIE w v fs xs W
  box : W.heap[B]? = some (.cells (eV e) 50 (0, 0))
  off : v.ownBlock ≠ some B
  snap : ∀ j u, j < n0 → xs[j]? = some u → W.cell? ⟨g0, j, none⟩ = some u
  glt : g0 < W.heap.size
  long : n0 ≤ xs.length
theorem PtI.low {w : World} {B g0 n0 : Nat} {e : E} {v : Value} {fs : List (List E)} {xs : List Value} {W W' : World} (h : PtI w B g0 n0 e v fs xs W) (hb : Below W.heap.size W W') : PtI w B g0 n0 e v fs xs W' :=
  ⟨h.row.low hb, hp_below h.box hb (hp_lt h.box), h.off, fun j u hj hu => (hb.cell (p := ⟨g0, j, none⟩) h.glt).trans (h.snap j u hj hu), Nat.lt_of_lt_of_le h.glt hb.size, h.long⟩
theorem PtI.push {w : World} {B g0 n0 : Nat} {e : E} {v v' : Value} {fs : List (List E)} {xs : List Value} {W W3 : World} {a : Option Addr} {c : Nat} {zs : List E} (h : PtI w B g0 n0 e v fs xs W) (hz : OwnE W w.heap.size v.ownBlock a zs)
    (hown : W3.ownsRow w.heap.size 46 1 v' (fs.length + 1) (xs ++ [.slice a zs.length c])) (hgrow : W.grownBy W3 v.ownBlock) (hat : v'.ownBlock = v.ownBlock ∨ v'.ownBlock = some W.heap.size ∧ W.grownBy W3 none) :
    PtI w B g0 n0 e v' (fs ++ [zs]) (xs ++ [.slice a zs.length c]) W3 := by
  have hbl := hp_lt h.box
  refine ⟨h.row.push hz hown hgrow (hat.imp id And.left), ?_, ?_, ?_, Nat.lt_of_lt_of_le h.glt hgrow.size, by rw [List.length_append]; have := h.long; omega⟩
  · exact (hgrow.block B hbl (fun e => h.off e.symm)).trans h.box
  · rcases hat with e1 | ⟨e1, _⟩
    · rw [e1]; exact h.off
    · rw [e1]; intro e2; injection e2 with e2; omega
  · intro j u hj hu
    have hl := h.long
    rw [List.getElem?_append_left (by omega)] at hu
    have h0 := h.snap j u hj hu
    rcases hat with e1 | ⟨e1, hg2⟩
    · by_cases hv : v.ownBlock = some g0
      · rw [hv] at e1
        obtain ⟨a', c', rfl⟩ := own_slice hown
        obtain ⟨g, hg⟩ := own_form hown (by omega)
        subst hg
        have e2 : some g = some g0 := e1
        injection e2 with e2
        subst e2
        exact own_cell hown (by rw [List.getElem?_append_left (by omega)]; exact hu)
      · exact hgrow.cell h0 (fun e => hv e.symm)
    · exact hg2.cell h0 (by simp)

end Go.Proofs.Ytikblaebfpdngaa

/- parts of patches: contract. -/
set_option linter.unusedVariables false
set_option linter.unusedSimpArgs false
namespace Go.Proofs.Ytikblaebfpdngaa
open Go.RowKit Tinker

/-- New parts in memory: all parts, sorted. -/
def GivesParts (xs : List E) (w : World) (e : Ending) (w' : World) : Prop :=
  ∃ (a : Option Addr) (c : Nat) (sp : List (List E)), e = .returned (.slice a sp.length c) ∧ sp.Perm (ptL xs) ∧ (sp.Pairwise fun a b => befE b a = false) ∧ RowsEAt w' a sp ∧ Below w.heap.size w w'
theorem pt_small {xs z : List E} (h : z ∈ ptL xs) (h4 : xs.length ≤ 4) : z.length ≤ 4 := Nat.le_trans ((ptL_mem xs z).1 h).length_le h4
theorem pt_len {xs : List E} (h4 : xs.length ≤ 4) : (ptL xs).length ≤ 16 := by
  rw [ptL_len]
  exact Nat.pow_le_pow_right (n := 2) (by omega) h4
theorem pt_pos (xs : List E) : 0 < (ptL xs).length := by rw [ptL_len]; exact Nat.two_pow_pos _
theorem boxE_load (W : World) (B : Nat) (e : E) (h : W.heap[B]? = some (.cells (eV e) 50 (0, 0))) : W.cell? ⟨B, 0, none⟩ = some (.int .i64 e.at_) ∧ W.cell? ⟨B, 1, none⟩ = some (.int .i64 e.ln.op) ∧ W.cell? ⟨B, 2, none⟩ = some (.int .i64 e.ln.to) ∧ W.cell? ⟨B, 3, none⟩ = some (.int .i64 e.ln.a) ∧ W.cell? ⟨B, 4, none⟩ = some (.int .i64 e.ln.b) :=
  ⟨hp_cell h (by rfl), hp_cell h (by rfl), hp_cell h (by rfl), hp_cell h (by rfl), hp_cell h (by rfl)⟩
theorem cells_newE (W : World) (e : E) : ∀ j u, (ec [e])[j]? = some u → (W.alloc (.cells (eV e) 50)).cell? ((⟨W.heap.size, 0, none⟩ : Addr).add j) = some u := by
  intro j u hu
  have e1 : (⟨W.heap.size, 0, none⟩ : Addr).add j = ⟨W.heap.size, j, none⟩ := by simp [Addr.add]; omega
  rw [e1]
  refine hp_cell (hp_new rfl) ?_
  rw [ec_sing] at hu
  unfold eV
  simpa using hu
theorem cells_keepE {W W' : World} {g j : Nat} {u : Value} (hB : Below W.heap.size W W') (h : W.cell? ((⟨g, 0, none⟩ : Addr).add j) = some u) : W'.cell? ((⟨g, 0, none⟩ : Addr).add j) = some u :=
  (hB.cell (World.block_lt_of_cell? W _ h)).trans h

end Go.Proofs.Ytikblaebfpdngaa
