/- Several texts in one. -/
import Derived.Test.YtjciojoeifekeaaPtM
import Derived.Test.YtjciojoeifekeaaPtW
import Derived.Test.YtjciojoeifekeaaEdO
import Derived.Test.YtjciojoeifekeaaPtD
import Derived.Deep.RegionLaw
import Derived.Test.YtjciojoeifekeaaIndB
/- What changes a program: contracts of Do, Inverse, diff, Diff, Clean. -/
set_option linter.unusedVariables false
set_option linter.unusedSimpArgs false
namespace Go.Proofs.Ytjciojoeifekeaa
open Go.RowKit Tinker

/-- append to an own row as one step of a region that draws its order. -/
theorem step_append_own {P : Program} {ops : Array Oper} {o : Oper} {a : Act} {w : World} {K : Act → World → Prop} {Q : Exit → Act → World → Prop} {E0 : Prop} (hg : o.guard = none) (s x : Operand) (t : TypeId)
    (ho : o.op = .call { callee := .builtin .append, args := #[s, x], argTypes := #[t, t] })
    (base : Nat) (e : TypeId) (i : TypeInfo) (z : Value) (size bytes : Nat) (ht : P.underlying t = some (.slice e)) (hi : P.info? e = some i) (hz : i.zero = some z)
    (hsize : i.size = size) (hby : i.bytes = bytes) (hzs : z.cells.size = size) (hsz : 0 < size)
    (v : Value) (n : Nat) (xs : List Value) (hs : a.eval s = v) (hown : w.ownsRow base e size v n xs)
    (ad : Addr) (m c : Nat) (news : List Value) (hx : a.eval x = .slice (some ad) m c) (hl : news.length = m * size) (hnews : ∀ j u, news[j]? = some u → w.cell? (ad.add j) = some u) (h1 : ∀ u ∈ news, u.oneCell' = true)
    (h63 : n + m ≤ maxLen) (hbytes : (n + m) * bytes ≤ 140737488355328) (hbase : base ≤ w.heap.size)
    (h : ∀ v' w', w'.ownsRow base e size v' (n + m) (xs ++ news) → w.grownBy w' v.ownBlock → K (a.put o.dst v') w') : if Region.wanted o (yielded ops a.tmps) = true then Oper.wp P o a w K Q else E0 := by
  have hw : Region.wanted o (yielded ops a.tmps) = true := by simp [Region.wanted, hg]
  rw [if_pos hw]
  exact wp_append_own w s x t ho base e i z size bytes ht hi hz hsize hby hzs hsz v n xs hs hown ad m c news hx hl hnews h1 h63 hbytes hbase fun v' w' h2 h3 _ => h v' w' h2 h3

theorem vts_nil : vts [] = 0 := by unfold vts; rfl
theorem tests_nil (w : World) : TestsAt w none [] := .inl rfl
theorem okX_at {ps : List L} {xs : List E} {c : Int} (h : vpx ps xs c = 0) : (∀ e ∈ xs, 0 ≤ e.at_ ∧ e.at_.toNat < ps.length) ∧ ps.length ≤ 8 ∧ xs.length ≤ 4 := by
  obtain ⟨h1, h2, h3, h4⟩ := vpx_ok h
  obtain ⟨k1, k2, k3⟩ := vx_ok h2
  exact ⟨fun e he => ⟨(k3 e he).1.1, h4 e he⟩, (vp_ok h1).1, k1⟩

/-- What Inverse answers. -/
def inR (ps : List L) (xs : List E) : List E := if vpx ps xs 0 = 0 then invL ps xs else []
theorem inv_take {ps : List L} {xs : List E} {k : Nat} {e : E} {l : L} (he : xs[k]? = some e) (hl : ps[e.at_.toNat]? = some l) : invL ps (xs.take (k + 1)) = invL ps (xs.take k) ++ [⟨e.at_, l⟩] := by
  unfold invL
  rw [List.take_add_one, he, List.map_append]
  show _ ++ [(⟨e.at_, ps.getD e.at_.toNat _⟩ : E)] = _
  rw [getD_of_get hl]
theorem inv_len (ps : List L) (xs : List E) : (invL ps xs).length = xs.length := by unfold invL; rw [List.length_map]

theorem ne_facts {l m : L} (h : eqL l m = false) : (l.op == m.op) = false ∨ ((l.op == m.op) = true ∧ (l.to == m.to) = false) ∨ ((l.op == m.op) = true ∧ (l.to == m.to) = true ∧ (l.a == m.a) = false) ∨ ((l.op == m.op) = true ∧ (l.to == m.to) = true ∧ (l.a == m.a) = true ∧ (l.b == m.b) = false) := by
  unfold eqL at h
  cases h1 : (l.op == m.op)
  · exact .inl rfl
  · cases h2 : (l.to == m.to)
    · exact .inr (.inl ⟨rfl, rfl⟩)
    · cases h3 : (l.a == m.a)
      · exact .inr (.inr (.inl ⟨rfl, rfl, rfl⟩))
      · cases h4 : (l.b == m.b)
        · exact .inr (.inr (.inr ⟨rfl, rfl, rfl, rfl⟩))
        · rw [h1, h2, h3, h4] at h; cases h

end Go.Proofs.Ytjciojoeifekeaa

/- What changes a program: contracts of Diff, Clean, distance, Size. -/
set_option linter.unusedVariables false
set_option linter.unusedSimpArgs false
namespace Go.Proofs.Ytjciojoeifekeaa
open Go.RowKit Tinker

def dsTo (p0 p1 p2 p3 : Bool) (k : Nat) : Int := if k = 0 then 0 else if k = 1 then b1 p0 else if k = 2 then b1 p0 + b1 p1 else if k = 3 then b1 p0 + b1 p1 + b1 p2 else b1 p0 + b1 p1 + b1 p2 + b1 p3
theorem dsTo_le (p0 p1 p2 p3 : Bool) (k : Nat) : 0 ≤ dsTo p0 p1 p2 p3 k ∧ dsTo p0 p1 p2 p3 k ≤ 4 := by
  have := b1_le p0; have := b1_le p1; have := b1_le p2; have := b1_le p3
  unfold dsTo
  split
  · omega
  · split
    · omega
    · split
      · omega
      · split <;> omega
theorem ds_1 (p0 p1 p2 p3 : Bool) : dsTo p0 p1 p2 p3 1 = dsTo p0 p1 p2 p3 0 + b1 p0 := by simp [dsTo]
theorem ds_2 (p0 p1 p2 p3 : Bool) : dsTo p0 p1 p2 p3 2 = dsTo p0 p1 p2 p3 1 + b1 p1 := by simp [dsTo]
theorem ds_3 (p0 p1 p2 p3 : Bool) : dsTo p0 p1 p2 p3 3 = dsTo p0 p1 p2 p3 2 + b1 p2 := by simp [dsTo]
theorem ds_4 (p0 p1 p2 p3 : Bool) : dsTo p0 p1 p2 p3 4 = dsTo p0 p1 p2 p3 3 + b1 p3 := by simp [dsTo]

theorem sz_take {ps : List L} {xs : List E} {k : Nat} {e : E} {l : L} (he : xs[k]? = some e) (hl : ps[e.at_.toNat]? = some l) : szL ps (xs.take (k + 1)) = szL ps (xs.take k) + dsN e.ln l := by
  rw [List.take_add_one, he]
  show szL ps (xs.take k ++ [e]) = _
  rw [szL_snoc, lnD_at hl]

/-- What Clean answers, as the code finds it. -/
def clQ (ps : List L) (xs : List E) : List E := if vpx ps xs 0 = 0 then dfL ps (doL ps xs) else []

end Go.Proofs.Ytjciojoeifekeaa
