/- Several texts in one. -/
import Derived.Test.YtigaklppdlknkaaGreatStB
import Derived.Test.YtigaklppdlknkaaGreatRSl
import Derived.Test.YtigaklppdlknkaaGreatConB
import Derived.Test.YtigaklppdlknkaaGreatChkA
/- The first state of a box that is not good: contract of find. -/
set_option linter.unusedVariables false
set_option linter.unusedSimpArgs false
namespace Go.Proofs.YtigaklppdlknkaaGreat
open Go.RowKit Go.Shelf Tinker
attribute [local go_sem] Oper.semAt_some

/-- The memory of find: the function, the two results. B is the size of the heap at the start. -/
structure FndI (B : Nat) (f v : Value) (r : Bool) (w W : World) : Prop where
  bf : W.heap[B + 1]? = some (.cells #[f] 80 (0, 0))
  bv : W.heap[B + 1 + 1]? = some (.cells #[v] 34 (0, 0))
  br : W.heap[B + 1 + 1 + 1]? = some (.cells #[.bool r] 4 (0, 0))
  below : Below w.heap.size w W
theorem FndI.lowB {B : Nat} {f v : Value} {r : Bool} {w W W' : World} (h : FndI B f v r w W) {n : Nat} (hb : Below n W W') (hn : B + 4 ≤ n ∧ w.heap.size ≤ n) : FndI B f v r w W' :=
  ⟨hp_below h.bf hb (by omega), hp_below h.bv hb (by omega), hp_below h.br hb (by omega), h.below.trans (hb.mono hn.2)⟩
theorem FndI.low {B : Nat} {f v : Value} {r : Bool} {w W W' : World} (h : FndI B f v r w W) (hb : Below W.heap.size W W') : FndI B f v r w W' :=
  h.lowB hb ⟨by have := hp_lt h.br; omega, h.below.size⟩
theorem FndI.drew {B : Nat} {f v : Value} {r : Bool} {w W : World} (h : FndI B f v r w W) : FndI B f v r w W.drew := ⟨hp_drew h.bf, hp_drew h.bv, hp_drew h.br, h.below.drew⟩
theorem FndI.put {B : Nat} {f v : Value} {r : Bool} {w W : World} (h : FndI B f v r w W) (hB : w.heap.size ≤ B) (v' : Value) (r' : Bool) :
    FndI B f v' r' w ((W.setCell ⟨B + 1 + 1, 0, none⟩ v').setCell ⟨B + 1 + 1 + 1, 0, none⟩ (.bool r')) :=
  ⟨hp_set (hp_set h.bf (by show B + 1 ≠ B + 1 + 1; omega) _) (by show B + 1 ≠ B + 1 + 1 + 1; omega) _,
   hp_set (by simpa using hp_put h.bv 0 v') (by show B + 1 + 1 ≠ B + 1 + 1 + 1; omega) _,
   by simpa using hp_put (hp_set h.br (p := ⟨B + 1 + 1, 0, none⟩) (by show B + 1 + 1 + 1 ≠ B + 1 + 1; omega) v') 0 (.bool r'),
   (h.below.setCell (p := ⟨B + 1 + 1, 0, none⟩) (by show _ ≤ B + 1 + 1; omega) _).setCell (p := ⟨B + 1 + 1 + 1, 0, none⟩) (by show _ ≤ B + 1 + 1 + 1; omega) _⟩
theorem find_none {lo hi : List Int} {G : List Int → Bool} (h : ∀ x ∈ stRs lo hi, G x.1 = true) : (allS lo hi).find? (fun s => !G s) = none := by
  rw [← stRs_map, List.find?_eq_none]
  intro s hs
  obtain ⟨x, hx, rfl⟩ := List.mem_map.1 hs
  simp [h x hx]
theorem find_some {lo hi : List Int} {G : List Int → Bool} {pre : List (St lo hi)} {x : St lo hi} (hp : pre ++ [x] <+: stRs lo hi) (h1 : ∀ y ∈ pre, G y.1 = true) (h2 : G x.1 = false) : (allS lo hi).find? (fun s => !G s) = some x.1 := by
  obtain ⟨t, ht⟩ := hp
  rw [← stRs_map, ← ht]
  simp only [List.map_append, List.append_assoc, List.find?_append]
  have h3 : (pre.map Subtype.val).find? (fun s => !G s) = none := by
    rw [List.find?_eq_none]
    intro s hs
    obtain ⟨y, hy, rfl⟩ := List.mem_map.1 hs
    simp [h1 y hy]
  rw [h3]
  simp [h2]
/-- What find answers. -/
def GivesFind (o : Option (List Int)) (w : World) (e : Ending) (w' : World) : Prop :=
  ∃ a c, e = .returned (.tuple #[.slice a (o.getD []).length c, .bool o.isSome]) ∧ IntsAt w' a (o.getD []) ∧ Below w.heap.size w w'
theorem loadVar_sl {w : World} {g : Nat} {v : Value} (h : w.cell? ⟨g, 0, none⟩ = some v) : (loadVar 34 ⟨g, 0, none⟩).run Tryz.prog w = .ok v w := by
  simp [loadVar, isAgg, run_underlying Tryz.underlying34, go_sem, h]
theorem loadVar_bo {w : World} {g : Nat} {v : Value} (h : w.cell? ⟨g, 0, none⟩ = some v) : (loadVar 4 ⟨g, 0, none⟩).run Tryz.prog w = .ok v w := by
  simp [loadVar, isAgg, run_underlying Tryz.underlying4, go_sem, h]
end Go.Proofs.YtigaklppdlknkaaGreat

/- Good states: isGood, validateContract, firstBad, Keeps, First of package check. -/
set_option linter.unusedVariables false
set_option linter.unusedSimpArgs false
namespace Go.Proofs.YtigaklppdlknkaaGreat
open Go.RowKit Go.Shelf Tinker

/-- A good state of a contract. -/
def gdP (ps : List L) (out mn mx : Int) (s : List Int) : Bool := btw (endP ps s out) mn mx
/-- What validateContract answers. -/
def vpc (ps : List L) (lo hi : List Int) (out mn mx : Int) : Int := fe (vp ps) (vcon lo hi out mn mx)
theorem vcon_ok {lo hi : List Int} {out mn mx : Int} (h : vcon lo hi out mn mx = 0) : isCon lo hi out mn mx = true ∧ prd lo hi 4 ≤ 400 := by
  cases hc : isCon lo hi out mn mx
  · rw [vcon_no hc] at h; omega
  · rw [vcon_yes hc] at h
    refine ⟨rfl, ?_⟩
    split at h <;> omega
theorem okC_of {lo hi : List Int} {out mn mx : Int} (h : isCon lo hi out mn mx = true) : OkC lo hi := by
  obtain ⟨h1, h2, h3, _⟩ := isCon_ok h
  exact ⟨(vs_ok h1).1, (vs_ok h2).1, fun j hj => leTo_le h3 hj, (vs_ok h1).2, (vs_ok h2).2⟩
theorem vpc_ok {ps : List L} {lo hi : List Int} {out mn mx : Int} (h : vpc ps lo hi out mn mx = 0) : vp ps = 0 ∧ vcon lo hi out mn mx = 0 := by
  unfold vpc fe at h; split at h
  · exact ⟨by assumption, h⟩
  · contradiction
/-- A state of the box of a valid contract is valid. -/
theorem inBx_vs {lo hi s : List Int} (hc : OkC lo hi) (h : inBx lo hi 4 s) : vs s = 0 := by
  refine vs_ok' h.1 fun n hn => ?_
  obtain ⟨j, hj, e⟩ := List.mem_iff_getElem.1 hn
  have h4 := h.1
  have l4 := hc.l4
  have r4 := hc.h4
  have := h.2 j (by omega)
  have e1 : s.getD j 0 = n := by rw [List.getD_eq_getElem?_getD, List.getElem?_eq_getElem hj, e]; rfl
  have e2 : lo.getD j 0 ∈ lo := by rw [List.getD_eq_getElem?_getD, List.getElem?_eq_getElem (by omega)]; exact List.getElem_mem _
  have e3 : hi.getD j 0 ∈ hi := by rw [List.getD_eq_getElem?_getD, List.getElem?_eq_getElem (by omega)]; exact List.getElem_mem _
  have := hc.lb _ e2
  have := hc.hb _ e3
  omega

end Go.Proofs.YtigaklppdlknkaaGreat
