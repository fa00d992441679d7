/- Several texts in one. -/
import Derived.Test.YtikblaebfpdngaaPtW
import Derived.Laws.CopyOwn
import Derived.Laws.CopyRow
import Derived.Test.YtikblaebfpdngaaPtD
import Derived.Test.YtikblaebfpdngaaTells
/- A program after a patch: contract of do. -/
set_option linter.unusedVariables false
set_option linter.unusedSimpArgs false
namespace Go.Proofs.Ytikblaebfpdngaa
open Go.RowKit Tinker

theorem mkLn0 (w : World) : (Instr.makeSlice 22 (.int .i64 ((0 : Nat) : Int)) (.int .i64 ((0 : Nat) : Int))).run Try.prog w = .ok (.slice (some ⟨w.heap.size, 0, none⟩) 0 0) (w.alloc (.cells (lc (List.replicate 0 ⟨0, 0, 0, 0⟩)).toArray 33)) := by kernel_rfl
theorem mkLn1 (w : World) : (Instr.makeSlice 22 (.int .i64 ((1 : Nat) : Int)) (.int .i64 ((1 : Nat) : Int))).run Try.prog w = .ok (.slice (some ⟨w.heap.size, 0, none⟩) 1 1) (w.alloc (.cells (lc (List.replicate 1 ⟨0, 0, 0, 0⟩)).toArray 33)) := by kernel_rfl
theorem mkLn2 (w : World) : (Instr.makeSlice 22 (.int .i64 ((2 : Nat) : Int)) (.int .i64 ((2 : Nat) : Int))).run Try.prog w = .ok (.slice (some ⟨w.heap.size, 0, none⟩) 2 2) (w.alloc (.cells (lc (List.replicate 2 ⟨0, 0, 0, 0⟩)).toArray 33)) := by kernel_rfl
theorem mkLn3 (w : World) : (Instr.makeSlice 22 (.int .i64 ((3 : Nat) : Int)) (.int .i64 ((3 : Nat) : Int))).run Try.prog w = .ok (.slice (some ⟨w.heap.size, 0, none⟩) 3 3) (w.alloc (.cells (lc (List.replicate 3 ⟨0, 0, 0, 0⟩)).toArray 33)) := by kernel_rfl
theorem mkLn4 (w : World) : (Instr.makeSlice 22 (.int .i64 ((4 : Nat) : Int)) (.int .i64 ((4 : Nat) : Int))).run Try.prog w = .ok (.slice (some ⟨w.heap.size, 0, none⟩) 4 4) (w.alloc (.cells (lc (List.replicate 4 ⟨0, 0, 0, 0⟩)).toArray 33)) := by kernel_rfl
theorem mkLn5 (w : World) : (Instr.makeSlice 22 (.int .i64 ((5 : Nat) : Int)) (.int .i64 ((5 : Nat) : Int))).run Try.prog w = .ok (.slice (some ⟨w.heap.size, 0, none⟩) 5 5) (w.alloc (.cells (lc (List.replicate 5 ⟨0, 0, 0, 0⟩)).toArray 33)) := by kernel_rfl
theorem mkLn6 (w : World) : (Instr.makeSlice 22 (.int .i64 ((6 : Nat) : Int)) (.int .i64 ((6 : Nat) : Int))).run Try.prog w = .ok (.slice (some ⟨w.heap.size, 0, none⟩) 6 6) (w.alloc (.cells (lc (List.replicate 6 ⟨0, 0, 0, 0⟩)).toArray 33)) := by kernel_rfl
theorem mkLn7 (w : World) : (Instr.makeSlice 22 (.int .i64 ((7 : Nat) : Int)) (.int .i64 ((7 : Nat) : Int))).run Try.prog w = .ok (.slice (some ⟨w.heap.size, 0, none⟩) 7 7) (w.alloc (.cells (lc (List.replicate 7 ⟨0, 0, 0, 0⟩)).toArray 33)) := by kernel_rfl
theorem mkLn8 (w : World) : (Instr.makeSlice 22 (.int .i64 ((8 : Nat) : Int)) (.int .i64 ((8 : Nat) : Int))).run Try.prog w = .ok (.slice (some ⟨w.heap.size, 0, none⟩) 8 8) (w.alloc (.cells (lc (List.replicate 8 ⟨0, 0, 0, 0⟩)).toArray 33)) := by kernel_rfl
theorem mkLines (n : Nat) (hn : n ≤ 8) (w : World) : (Instr.makeSlice 22 (.int .i64 (n : Int)) (.int .i64 (n : Int))).run Try.prog w = .ok (.slice (some ⟨w.heap.size, 0, none⟩) n n) (w.alloc (.cells (lc (List.replicate n ⟨0, 0, 0, 0⟩)).toArray 33)) := by
  have c : n = 0 ∨ n = 1 ∨ n = 2 ∨ n = 3 ∨ n = 4 ∨ n = 5 ∨ n = 6 ∨ n = 7 ∨ n = 8 := by omega
  rcases c with rfl | rfl | rfl | rfl | rfl | rfl | rfl | rfl | rfl
  · exact mkLn0 w
  · exact mkLn1 w
  · exact mkLn2 w
  · exact mkLn3 w
  · exact mkLn4 w
  · exact mkLn5 w
  · exact mkLn6 w
  · exact mkLn7 w
  · exact mkLn8 w

theorem setRow_alloc (w : World) (cs cs' : Array Value) (t : TypeId) : (w.alloc (.cells cs t)).setRow w.heap.size cs' = w.alloc (.cells cs' t) := by
  have hn : (w.alloc (.cells cs t)).heap[w.heap.size]? = some (.cells cs t (0, 0)) := hp_new rfl
  have h1 := setRow_heap _ w.heap.size cs cs' t (0, 0) hn
  have hh : ((w.alloc (.cells cs t)).setRow w.heap.size cs').heap = (w.alloc (.cells cs' t)).heap := by
    apply Array.ext_getElem?
    intro k
    by_cases hk : k = w.heap.size
    · subst hk
      rw [h1]
      exact (hp_new (w := w) (o := .cells cs' t) rfl).symm
    · rw [setRow_other _ _ k _ (fun e => hk e)]
      by_cases hlt : k < w.heap.size
      · rw [heap_alloc_old w _ hlt, heap_alloc_old w _ hlt]
      · rw [Array.getElem?_eq_none (by simp; omega), Array.getElem?_eq_none (by simp; omega)]
  have e1 : ((w.alloc (.cells cs t)).setRow w.heap.size cs') = { w with heap := ((w.alloc (.cells cs t)).setRow w.heap.size cs').heap } := rfl
  rw [e1, hh]
  rfl

/-- copy of a whole row of lines into a new one. -/
theorem run_copy_lines (w : World) (a : Option Addr) (ca : Nat) (ps : List L) (ty : TypeId) (hp : LinesAt w a ps) (cur : Array Value) (hc : cur.size = ps.length * 4) :
    (Builtin.copy_ #[22, 22] ty #[.slice (some ⟨w.heap.size, 0, none⟩) ps.length ps.length, .slice a ps.length ca]).run Try.prog (w.alloc (.cells cur 33)) = .ok (.int .i64 (ps.length : Int)) (w.alloc (.cells (lc ps).toArray 33)) := by
  obtain ⟨i0, hi, hz0, hz1, hz2⟩ := info_parts info_line
  cases a with
  | none =>
    have h0 := hp.none
    subst h0
    have hcu : cur = #[] := Array.eq_empty_of_size_eq_zero (by simpa using hc)
    subst hcu
    simp [Builtin.copy_, run_underlying Try.underlying22, Builtin.lenOf, Builtin.firstCells, sizeOf, typeInfo, hi, storeCells, goInt, lc]
  | some ad =>
    have hl := run_loadCells_list (P := Try.prog) (w.alloc (.cells cur 33)) ad (lc ps) (fun j v hv => cell_alloc_keep (hp.cells j v hv))
    rw [lc_length] at hl
    have hst := run_storeCells_at Try.prog w.heap.size 0 33 (lc ps) 0 cur (w.alloc (.cells cur 33)) (hp_new rfl) (by rw [lc_length]; omega) (lc_one ps)
    have e1 : cur.toList.take (0 + 0) ++ lc ps ++ cur.toList.drop (0 + 0 + (lc ps).length) = lc ps := by
      rw [List.drop_eq_nil_of_le (by rw [lc_length, Array.length_toList]; omega)]
      simp
    rw [e1, setRow_alloc] at hst
    simp [Builtin.copy_, run_underlying Try.underlying22, Builtin.lenOf, Builtin.firstCells, sizeOf, typeInfo, hi, hz1, hl, hst, Nat.min_self, goInt]

theorem lines_own_of {W : World} {base M : Nat} {qs : List L} {n : Nat} (hg : W.heap[M]? = some (.cells (lc qs).toArray 33 (0, 0))) (hb : base ≤ M) (hn : qs.length = n) (hm : n ≤ 1000) :
    W.ownsRow base 33 4 (.slice (some ⟨M, 0, none⟩) n n) n (lc qs) :=
  ⟨by rw [lc_length, hn], .inr ⟨M, n, _, rfl, hb, hg, Nat.le_refl _, by unfold maxLen; omega, by simp [lc_length, hn], by show (lc qs).toArray.toList.take (n * 4) = lc qs; rw [List.toList_toArray, List.take_of_length_le (by rw [lc_length, hn]; exact Nat.le_refl _)]⟩⟩

set_option maxRecDepth 100000 in
set_option maxHeartbeats 2000000 in
theorem pdo_any (a g : Option Addr) (ca cg : Nat) (ps : List L) (xs : List E) (w : World) (hp : LinesAt w a ps) (hx : EditsAt w g xs) (h8 : ps.length ≤ 8) (h4 : xs.length ≤ 4) (hat : ∀ e ∈ xs, 0 ≤ e.at_ ∧ e.at_.toNat < ps.length) :
    Calls Try.prog 85 #[.slice a ps.length ca, .slice g xs.length cg] w (GivesLines (doL ps xs) w) := by
  have hmk := mkLines ps.length h8
  have hcp := run_copy_lines w a ca ps 3 hp (lc (List.replicate ps.length ⟨0, 0, 0, 0⟩)).toArray (by simp [lc_length])
  have HAT := Lib.hid hat
  have hO : (w.alloc (.cells (lc ps).toArray 33)).ownsRow w.heap.size 33 4 (.slice (some ⟨w.heap.size, 0, none⟩) ps.length ps.length) ps.length (lc (doL ps (xs.take 0))) := lines_own_of (qs := ps) (hp_new rfl) (Nat.le_refl _) rfl (by omega)
  have HO := Lib.hid hO
  have HB := Lib.hid (show Below w.heap.size w (w.alloc (.cells (lc ps).toArray 33)) from (Below.refl _ _).alloc (Nat.le_refl _) _)
  clear hat hp hO
  go_enter Try.func85, Try.ntmps85
  go_wp2_with fail
  go_loopw [16] (fun s16 wr => ∃ k : Nat, k ≤ xs.length ∧ s16 = .int .i64 k ∧ wr.ownsRow w.heap.size 33 4 (.slice (some ⟨w.heap.size, 0, none⟩) ps.length ps.length) ps.length (lc (doL ps (xs.take k))) ∧ Below w.heap.size w wr) (fun s16 _ => xs.length - (intOf s16).toNat)
  case atStart => exact ⟨0, Nat.zero_le _, rfl, HO.out, HB.out⟩
  case round =>
    clear HO HB
    obtain ⟨k, hk, rfl, hO, hB⟩ := hrel
    by_cases hlt : k < xs.length
    · obtain ⟨b, off, e, rfl, hlb, he, c0, c1, c2, c3, c4⟩ := (hx.below hB (Nat.le_refl _)).at_ hlt
      obtain ⟨a0, a1⟩ := HAT.out e (mem_of_get he)
      have a2 : e.at_ < (ps.length : Int) := by omega
      have hal : Below wr.heap.size wr (wr.alloc (.cells #[.int .i64 e.at_, .int .i64 e.ln.op, .int .i64 e.ln.to, .int .i64 e.ln.a, .int .i64 e.ln.b] 50)) := (Below.refl _ _).alloc (Nat.le_refl _) _
      have hO1 := own_below hO hal (Nat.le_refl _)
      have hB1 := hB.trans (hal.mono hB.size)
      have hlt2 : e.at_.toNat < (doL ps (xs.take k)).length := by rw [doL_len]; exact a1
      have HTh := Lib.hid (own_there hO1 hlt2)
      have HPL := Lib.hid (puts_line hO1 hlt2 e.ln hB1)
      have HOne := Lib.hid (one_line e.ln)
      have HE := Lib.hid (show doL ps (xs.take (k + 1)) = (doL ps (xs.take k)).set e.at_.toNat e.ln by rw [List.take_add_one, he]; exact doL_snoc _ _ _)
      clear hx he hal hO hO1 hB hB1 hlt2
      go_wp2_with (refine wpList_store_mid rfl 33 (.tmp 25) (.tmp 24) rfl w.heap.size (e.at_.toNat * 4) #[.int .i64 e.ln.op, .int .i64 e.ln.to, .int .i64 e.ln.a, .int .i64 e.ln.b] rfl rfl HTh.out info_ln HOne.out ?_)
      go_wp2_with fail
      go_roundw
      case rel => exact ⟨k + 1, by omega, by go_num, by rw [HE.out]; exact HPL.out.1, HPL.out.2⟩
      case measure => simp [intOf]; omega
    · obtain rfl : k = xs.length := by omega
      rw [List.take_length] at hO
      have HO := Lib.hid hO
      have HB := Lib.hid hB
      clear hO hB
      go_wp2_with fail
      go_ret
      exact ⟨_, _, by rw [doL_len]; rfl, by rw [doL_len]; exact HO.out, HB.out⟩

end Go.Proofs.Ytikblaebfpdngaa

/- Good and minimal patches: contracts of failing, isGood, smallest, IsMinimal. -/
set_option linter.unusedVariables false
set_option linter.unusedSimpArgs false
namespace Go.Proofs.Ytikblaebfpdngaa
open Go.RowKit Tinker

theorem doL_valid : ∀ (xs : List E) (ps : List L), (∀ l ∈ ps, isLn l = true) → (∀ e ∈ xs, isLn e.ln = true) → ∀ l ∈ doL ps xs, isLn l = true
  | [], _, h, _ => h
  | e :: xs, ps, h, h2 => by
    rw [doL_cons]
    refine doL_valid xs _ (fun l hl => ?_) (fun x hx => h2 x (List.mem_cons_of_mem _ hx))
    rcases List.mem_or_eq_of_mem_set hl with h3 | h3
    · exact h l h3
    · rw [h3]; exact h2 e (by simp)
theorem doL_vp {ps : List L} {xs : List E} (h : vp ps = 0) (h2 : ∀ e ∈ xs, isLn e.ln = true) : vp (doL ps xs) = 0 :=
  vp_ok' (by rw [doL_len]; exact (vp_ok h).1) (doL_valid xs ps (vp_ok h).2 h2)
/-- A program passes all tests after a patch. -/
def gdB (ps : List L) (ts : List T) (z : List E) : Bool := ts.all fun t => pas (doL ps z) t
theorem plc_nil {bs : List Bool} : (plc bs).length = 0 ↔ ∀ b ∈ bs, b = false := by
  unfold plc plcTo
  rw [List.length_map, List.length_eq_zero_iff, List.filter_eq_nil_iff]
  constructor
  · intro h b hb
    obtain ⟨j, hj⟩ := List.getElem?_of_mem hb
    have := h j (List.mem_range.2 (List.getElem?_eq_some_iff.1 hj).1)
    rw [getD_of_get hj] at this
    simpa using this
  · intro h a ha
    obtain ⟨b, hb⟩ := get_of_lt (List.mem_range.1 ha)
    rw [getD_of_get hb, h b (mem_of_get hb)]
    simp
/-- Conditions of a patch that can be done. -/
structure okX (ps : List L) (xs : List E) : Prop where
  v : vp ps = 0
  len : xs.length ≤ 4
  at_ : ∀ e ∈ xs, 0 ≤ e.at_ ∧ e.at_.toNat < ps.length
  ln : ∀ e ∈ xs, isLn e.ln = true
theorem okX_of {ps : List L} {xs : List E} {c : Int} (h : vpx ps xs c = 0) : okX ps xs := by
  obtain ⟨h1, h2, h3, h4⟩ := vpx_ok h
  obtain ⟨k1, k2, k3⟩ := vx_ok h2
  exact ⟨h1, k1, fun e he => ⟨(k3 e he).1.1, h4 e he⟩, fun e he => (k3 e he).2⟩
theorem okX.sub {ps : List L} {xs z : List E} (h : okX ps xs) (hs : z.Sublist xs) : okX ps z :=
  ⟨h.v, Nat.le_trans hs.length_le h.len, fun e he => h.at_ e (hs.subset he), fun e he => h.ln e (hs.subset he)⟩
theorem gd_fail {ps : List L} {ts : List T} {z : List E} (h : okX ps z) (ht : vts ts = 0) : decide ((((pL false (doL ps z) ts).length : Nat) : Int) = 0) = gdB ps ts z := by
  have hv : vpt (doL ps z) ts = 0 := by unfold vpt; rw [doL_vp h.v h.ln, ht]; rfl
  rw [pL_ok hv]
  unfold gdB
  rw [Bool.eq_iff_iff, decide_eq_true_eq, List.all_eq_true]
  have : (((plc (ts.map fun t => pas (doL ps z) t == false)).length : Nat) : Int) = 0 ↔ (plc (ts.map fun t => pas (doL ps z) t == false)).length = 0 := by omega
  rw [this, plc_nil]
  constructor
  · intro h t ht
    have := h _ (List.mem_map.2 ⟨t, ht, rfl⟩)
    simpa using this
  · intro h b hb
    obtain ⟨t, ht, rfl⟩ := List.mem_map.1 hb
    simpa using h t ht

theorem find_at {g : List E → Bool} {sp : List (List E)} {k : Nat} {z : List E} (ha : (sp.take k).all (fun z => !g z) = true) (hz : sp[k]? = some z) (hg : g z = true) : sp.find? g = some z := by
  obtain ⟨hk, rfl⟩ := List.getElem?_eq_some_iff.1 hz
  rw [List.find?_eq_some_iff_append]
  refine ⟨hg, sp.take k, sp.drop (k + 1), ?_, fun a h => List.all_eq_true.1 ha a h⟩
  rw [← List.drop_eq_getElem_cons hk, List.take_append_drop]
theorem find_no {g : List E → Bool} {sp : List (List E)} (ha : sp.all (fun z => !g z) = true) : sp.find? g = none := by
  rw [List.find?_eq_none]
  intro z hz
  have := List.all_eq_true.1 ha z hz
  simpa using this

/-- The smallest part, if there is one. -/
def GivesSm (o : Option (List E)) (w : World) (e : Ending) (w' : World) : Prop :=
  ∃ a c, e = .returned (.tuple #[.slice a (o.getD []).length c, .bool o.isSome]) ∧ EditsAt w' a (o.getD []) ∧ Below w.heap.size w w'
theorem okX_dist {ps : List L} {xs : List E} {c : Int} (h : vpx ps xs c = 0) : dist xs := dist_of (vx_ok (vpx_ok h).2.1).2.1

/-- What IsMinimal answers. -/
def mnR (ps : List L) (xs : List E) (ts : List T) : Bool := if vpx ps xs (vts ts) = 0 then mnC (gdB ps ts) xs else false

end Go.Proofs.Ytikblaebfpdngaa
