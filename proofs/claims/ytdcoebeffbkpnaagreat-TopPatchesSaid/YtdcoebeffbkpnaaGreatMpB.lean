/- Several texts in one. -/
import Derived.Test.YtdcoebeffbkpnaaGreatPtW
import Derived.Test.YtdcoebeffbkpnaaGreatEdO
import Derived.Test.YtdcoebeffbkpnaaGreatPtS
import Derived.Maps.OwnSet
import Derived.Test.YtdcoebeffbkpnaaGreatPtD
import Derived.Maps.OwnOps
/- Edits in a map: plain mathematics, and the laws of the map at the operations. -/
set_option linter.unusedVariables false
set_option linter.unusedSimpArgs false
namespace Tinker
/-- The last line of edits at a place. -/
def lastX (l : List E) (i : Int) : Option L := atX l.reverse i
theorem lastX_nil (i : Int) : lastX [] i = none := rfl
theorem lastX_snoc (l : List E) (e : E) (i : Int) : lastX (l ++ [e]) i = if e.at_ = i then some e.ln else lastX l i := by
  unfold lastX
  rw [List.reverse_append]
  exact atX_cons e l.reverse i
def c1 (b : Bool) : Nat := if b then 1 else 0
/-- At how many places there is a line. -/
def cnt8 (f : Int → Option L) : Nat := c1 (f 0).isSome + c1 (f 1).isSome + c1 (f 2).isSome + c1 (f 3).isSome + c1 (f 4).isSome + c1 (f 5).isSome + c1 (f 6).isSome + c1 (f 7).isSome
theorem cnt8_put {f g : Int → Option L} {j : Int} {l : L} (hg : ∀ i, g i = if j = i then some l else f i) (h0 : 0 ≤ j) (h7 : j ≤ 7) : cnt8 g = if (f j).isSome = true then cnt8 f else cnt8 f + 1 := by
  have hj : j = 0 ∨ j = 1 ∨ j = 2 ∨ j = 3 ∨ j = 4 ∨ j = 5 ∨ j = 6 ∨ j = 7 := by omega
  unfold cnt8
  rw [hg 0, hg 1, hg 2, hg 3, hg 4, hg 5, hg 6, hg 7]
  rcases hj with rfl | rfl | rfl | rfl | rfl | rfl | rfl | rfl
  · cases h : f 0 <;> simp [h, c1] <;> omega
  · cases h : f 1 <;> simp [h, c1] <;> omega
  · cases h : f 2 <;> simp [h, c1] <;> omega
  · cases h : f 3 <;> simp [h, c1] <;> omega
  · cases h : f 4 <;> simp [h, c1] <;> omega
  · cases h : f 5 <;> simp [h, c1] <;> omega
  · cases h : f 6 <;> simp [h, c1] <;> omega
  · cases h : f 7 <;> simp [h, c1] <;> omega
theorem cnt8_le (f : Int → Option L) : cnt8 f ≤ 8 := by
  have h : ∀ b, c1 b ≤ 1 := fun b => by cases b <;> decide
  unfold cnt8
  have := h (f 0).isSome; have := h (f 1).isSome; have := h (f 2).isSome; have := h (f 3).isSome; have := h (f 4).isSome; have := h (f 5).isSome; have := h (f 6).isSome; have := h (f 7).isSome
  omega
/-- The edits of the first k places. -/
def mpTo (f : Int → Option L) (k : Nat) : List E := (List.range k).filterMap fun i : Nat => (f i).map fun l => ⟨(i : Int), l⟩
def mpL (f : Int → Option L) : List E := mpTo f 8
theorem mpTo_yes {f : Int → Option L} {k : Nat} {l : L} (h : f k = some l) : mpTo f (k + 1) = mpTo f k ++ [⟨(k : Int), l⟩] := by
  unfold mpTo
  rw [List.range_succ, List.filterMap_append]
  simp [h]
theorem mpTo_no {f : Int → Option L} {k : Nat} (h : f k = none) : mpTo f (k + 1) = mpTo f k := by
  unfold mpTo
  rw [List.range_succ, List.filterMap_append]
  simp [h]
theorem mpTo_len (f : Int → Option L) : ∀ k, (mpTo f k).length ≤ k
  | 0 => by simp [mpTo]
  | k + 1 => by
    have ih := mpTo_len f k
    cases h : f k with
    | none => rw [mpTo_no h]; omega
    | some l => rw [mpTo_yes h, List.length_append, List.length_singleton]; omega
theorem mpL_mem {f : Int → Option L} {e : E} : e ∈ mpL f ↔ (0 ≤ e.at_ ∧ e.at_ ≤ 7) ∧ f e.at_ = some e.ln := by
  unfold mpL mpTo
  rw [List.mem_filterMap]
  constructor
  · rintro ⟨i, hi, he⟩
    rw [Option.map_eq_some_iff] at he
    obtain ⟨l, hl, rfl⟩ := he
    have := List.mem_range.1 hi
    exact ⟨⟨by show (0 : Int) ≤ (i : Int); omega, by show (i : Int) ≤ 7; omega⟩, hl⟩
  · rintro ⟨⟨h0, h7⟩, hf⟩
    refine ⟨e.at_.toNat, List.mem_range.2 (by omega), ?_⟩
    rw [show ((e.at_.toNat : Nat) : Int) = e.at_ by omega, hf]
    rfl
theorem mpL_dist (f : Int → Option L) : dist (mpL f) := by
  unfold dist mpL mpTo
  rw [List.pairwise_filterMap]
  refine List.pairwise_lt_range.imp fun {a b} hab x hx y hy => ?_
  rw [Option.map_eq_some_iff] at hx hy
  obtain ⟨_, _, rfl⟩ := hx
  obtain ⟨_, _, rfl⟩ := hy
  show (a : Int) < (b : Int)
  omega
end Tinker
namespace Go.Proofs.YtdcoebeffbkpnaaGreat
open Go.RowKit Go.Maps Tinker

theorem lawI : Keyed Tryz.prog 3 := int_keyed Tryz.underlying3
theorem zeroL (w : World) : (zeroValue 63).run Tryz.prog w = .ok (.agg #[.int .i64 0, .int .i64 0, .int .i64 0, .int .i64 0]) w := by kernel_rfl
/-- An element reads as itself. -/
def rV (v : Value) : Option (DataW Value × List MemPlace) := some (.held v, [])
def fV : Option L → Value
  | none => .agg #[.int .i64 0, .int .i64 0, .int .i64 0, .int .i64 0]
  | some l => lv l
def kI (i : Int) : Lit := .int .i64 i
/-- The block b is a map of these lines. -/
def MapI (W : World) (b : Nat) (f : Int → Option L) : Prop := ∃ (D : DataW Value) (m : Nat), W.ownsMap Tryz.prog 3 rV b m D ∧ m ≤ 100 ∧ (∀ i : Int, 0 ≤ i → i ≤ 7 → D.atKey (kI i) (.held (fV none)) = .held (fV (f i)) ∧ Maps.has D (kI i) = (f i).isSome) ∧ Maps.size D = cnt8 f
theorem wfI {i : Int} (h0 : 0 ≤ i) (h7 : i ≤ 7) : (Lit.int .i64 i).wf = true := WalkArith.wf_i64 (by omega)
theorem keyI {i : Int} (h0 : 0 ≤ i) (h7 : i ≤ 7) : keyOf Tryz.prog 3 (.int .i64 i) = some (kI i) := keyOf_int_mk Tryz.underlying3 (wfI h0 h7)
theorem MapI.new (w : World) : MapI (w.alloc (.map #[] 0)) w.heap.size (fun _ => none) :=
  ⟨_, 0, World.ownsMap_made w Tryz.prog 3 rV, by omega, fun i _ _ => ⟨rfl, rfl⟩, rfl⟩
theorem MapI.low {W W' : World} {b : Nat} {f : Int → Option L} (h : MapI W b f) (hB : Below W.heap.size W W') : MapI W' b f := by
  obtain ⟨D, m, h1, h2, h3, h4⟩ := h
  exact ⟨D, m, h1.kept (row := none) ⟨hB.os, hB.tape, hB.output, hB.size, fun k hk _ => hB.block k hk⟩ (by simp), h2, h3, h4⟩
theorem MapI.lt {W : World} {b : Nat} {f : Int → Option L} (h : MapI W b f) : b < W.heap.size := by obtain ⟨D, m, h1, _⟩ := h; exact h1.lt
theorem kI_ne {i j : Int} (h : i ≠ j) : kI i ≠ kI j := fun e => h (by unfold kI at e; injection e)

theorem own_tight {W : World} {b n : Nat} {D : DataW Value} (h : W.ownsMap Tryz.prog 3 rV b n D) : W.ownsMap Tryz.prog 3 rV b (Maps.size D) D := by
  obtain ⟨es, clock, h1, h2, h3, rfl⟩ := h
  exact ⟨es, clock, h1, h2, by rw [size_eq, length_read]; exact Nat.le_refl _, rfl⟩

/-- A look-up at the operation. -/
theorem wpList_look_line {w : World} {ops : Array Oper} {rest : List Oper} {o : Oper} {a : Act} {Q : Exit → Act → World → Prop} (hg : o.guard = none) (m x : Operand) (hop : o.op = Op.lookup 122 m x true)
    (b : Nat) (f : Int → Option L) (hm : a.eval m = .map (some b)) (hM : MapI w b f) (i : Int) (h0 : 0 ≤ i) (h7 : i ≤ 7) (hx : a.eval x = .int .i64 i) (r : Option L) (hr : f i = r)
    (hK : wpList Tryz.prog ops Q rest (a.put o.dst (.tuple #[fV r, .bool r.isSome])) w) : wpList Tryz.prog ops Q (o :: rest) a w := by
  obtain ⟨D, n, h1, h2, h3, h4⟩ := hM
  refine wpList_lookup_own_ok w hg m x 122 hop 3 63 lawI Tryz.underlying122 rV (zeroL w) (.held (fV none)) [] rfl b n D hm h1 (.int .i64 i) (kI i) hx (keyI h0 h7) ?_
  intro v ps hv
  obtain ⟨h5, h6⟩ := h3 i h0 h7
  rw [h5] at hv
  unfold rV at hv
  injection hv with hv
  injection hv with hv1 hv2
  injection hv1 with hv1
  rw [hv1, h6, hr]
  exact hK
/-- A store at the operation. -/
theorem wpList_store_line {w : World} {ops : Array Oper} {rest : List Oper} {o : Oper} {a : Act} {Q : Exit → Act → World → Prop} (hg : o.guard = none) (m x v : Operand) (hop : o.op = Op.mapUpdate 122 m x v)
    (b : Nat) (f : Int → Option L) (hm : a.eval m = .map (some b)) (hM : MapI w b f) (i : Int) (h0 : 0 ≤ i) (h7 : i ≤ 7) (hx : a.eval x = .int .i64 i) (l : L) (hv : a.eval v = lv l) (f' : Int → Option L) (hf : ∀ j, f' j = if i = j then some l else f j) (B : Nat) (w0 : World) (hB : Below B w0 w) (hb : B ≤ b)
    (hK : ∀ w', MapI w' b f' → Below B w0 w' → wpList Tryz.prog ops Q rest (a.put o.dst undef) w') : wpList Tryz.prog ops Q (o :: rest) a w := by
  obtain ⟨D, n, h1, h2, h3, h4⟩ := hM
  have hT := h1.tidy lawI
  have hn : Maps.size D ≤ 8 := by rw [h4]; exact cnt8_le f
  obtain ⟨h5, h6⟩ := h3 i h0 h7
  refine wpList_mapUpdate_own w hg m x v 122 hop 3 63 lawI Tryz.underlying122 rV b n D hm h1 (by unfold maxLen; omega) (.int .i64 i) (lv l) (kI i) hx hv (keyI h0 h7) (.held (lv l)) [] rfl ?_
  intro w' h7' h8
  have hsz : Maps.size (D.put (kI i) (.held (lv l))) = cnt8 f' := by
    rw [size_put hT, h6, h4, cnt8_put hf h0 h7]
  refine hK w' ?_ ⟨h8.os.trans hB.os, h8.tape.trans hB.tape, h8.output.trans hB.output, Nat.le_trans hB.size h8.size, fun k hk => (h8.block k (Nat.lt_of_lt_of_le hk (Nat.le_trans hb (Nat.le_of_lt h1.lt))) (by intro e; injection e with e; omega)).trans (hB.block k hk)⟩
  refine ⟨_, _, own_tight h7', by rw [hsz]; have := cnt8_le f'; omega, fun j j0 j7 => ?_, hsz⟩
  rw [hf j]
  by_cases hij : i = j
  · subst hij
    rw [if_pos rfl]
    exact ⟨atKey_put_same hT.isMap (show WideAt.IsKeyLit (kI i) from trivial) _ _, has_put_same hT.isMap (show WideAt.IsKeyLit (kI i) from trivial) _⟩
  · rw [if_neg hij]
    have hne : kI j ≠ kI i := kI_ne (fun e => hij e.symm)
    obtain ⟨q1, q2⟩ := h3 j j0 j7
    exact ⟨(atKey_put_other hne _ _).trans q1, (has_put_other hne _).trans q2⟩

end Go.Proofs.YtdcoebeffbkpnaaGreat

/- editsOf and patch of edits: contracts. -/
set_option linter.unusedVariables false
set_option linter.unusedSimpArgs false
namespace Go.Proofs.YtdcoebeffbkpnaaGreat
open Go.RowKit Go.Maps Tinker

set_option maxRecDepth 100000 in
set_option maxHeartbeats 2000000 in
theorem editsOf_any (g : Option Addr) (cap : Nat) (fs : List (List E)) (w : World) (hR : RowsEAt w g fs) (hl : fs.length ≤ 2) (h4 : ∀ z ∈ fs, z.length ≤ 4) (hk : ∀ z ∈ fs, ∀ e ∈ z, 0 ≤ e.at_ ∧ e.at_ ≤ 7) :
    Calls Tryz.prog 86 #[.slice g fs.length cap] w fun e w' => e = .returned (.map (some w.heap.size)) ∧ MapI w' w.heap.size (lastX fs.flatten) ∧ Below w.heap.size w w' := by
  have hmm := @run_makeMap Tryz.prog
  have H4 := Lib.hid h4
  have HK := Lib.hid hk
  have HR := Lib.hid hR
  have HM0 := Lib.hid (MapI.new w)
  have HB0 := Lib.hid (show Below w.heap.size w (w.alloc (.map #[] 0)) from (Below.refl _ _).alloc (Nat.le_refl _) _)
  clear h4 hk hR
  go_enter Tryz.func86, Tryz.ntmps86
  go_wp2_with fail
  go_loopw [11] (fun s11 wr => ∃ k : Nat, k ≤ fs.length ∧ s11 = .int .i64 k ∧ MapI wr w.heap.size (lastX (fs.take k).flatten) ∧ Below w.heap.size w wr) (fun s11 _ => fs.length - (intOf s11).toNat)
  case atStart => exact ⟨0, Nat.zero_le _, rfl, HM0.out, HB0.out⟩
  case round =>
    clear HM0 HB0 hmm
    obtain ⟨k, hk, rfl, hM, hB⟩ := hrel
    by_cases hlt : k < fs.length
    · obtain ⟨b, off, z, a', c', rfl, hlb, hz, y0, hE⟩ := HR.out.at_ hlt
      have x0 := (hB.cell (p := ⟨b, off + k, none⟩) hlb).trans y0
      have hz4 := H4.out z (mem_of_get hz)
      have HKZ := Lib.hid (HK.out z (mem_of_get hz))
      have HFL := Lib.hid (show (fs.take (k + 1)).flatten = (fs.take k).flatten ++ z by rw [List.take_add_one, hz]; simp)
      have HE := Lib.hid hE
      have HM := Lib.hid hM
      have HB := Lib.hid hB
      clear hz hE hM hB y0
      generalize (fs.take k).flatten = pre at HFL HM
      go_wp2_with fail
      go_loopw [17] (fun s17 wx => ∃ m : Nat, m ≤ z.length ∧ s17 = .int .i64 m ∧ MapI wx w.heap.size (lastX (pre ++ z.take m)) ∧ Below w.heap.size w wx) (fun s17 _ => z.length - (intOf s17).toNat)
      case atStart => exact ⟨0, Nat.zero_le _, rfl, by rw [List.take_zero, List.append_nil]; exact HM.out, HB.out⟩
      case round =>
        clear HM HB x0
        obtain ⟨m, hm, rfl, hM, hB⟩ := hrel
        by_cases hlm : m < z.length
        · obtain ⟨b2, off2, e, rfl, hlb2, he, c0, c1, c2, c3, c4⟩ := (HE.out.below hB (Nat.le_refl _)).at_ hlm
          obtain ⟨a0, a7⟩ := HKZ.out e (mem_of_get he)
          have hal : Below wr.heap.size wr (wr.alloc (.cells #[.int .i64 e.at_, .int .i64 e.ln.op, .int .i64 e.ln.to, .int .i64 e.ln.a, .int .i64 e.ln.b] 65)) := (Below.refl _ _).alloc (Nat.le_refl _) _
          have HM2 := Lib.hid (hM.low hal)
          have HB2 := Lib.hid (hB.trans (hal.mono hB.size))
          have HST := Lib.hid (show ∀ j, lastX (pre ++ z.take (m + 1)) j = if e.at_ = j then some e.ln else lastX (pre ++ z.take m) j from fun j => by rw [List.take_add_one, he, ← List.append_assoc]; exact lastX_snoc _ _ _)
          clear he hal hM hB
          go_wp2_with (at_mapUpdate; refine wpList_store_line rfl _ _ _ rfl w.heap.size _ rfl HM2.out e.at_ a0 a7 rfl e.ln rfl _ HST.out w.heap.size w HB2.out (Nat.le_refl _) ?_)
          intro w3 hM3 hB3
          have HM3 := Lib.hid hM3
          have HB3 := Lib.hid hB3
          clear hM3 hB3
          go_wp2_with fail
          go_roundw
          case rel => exact ⟨m + 1, by omega, by go_num, HM3.out, HB3.out⟩
          case measure => simp [intOf]; omega
        · obtain rfl : m = z.length := by omega
          rw [List.take_length, ← HFL.out] at hM
          have HM := Lib.hid hM
          have HB := Lib.hid hB
          clear hM hB
          go_wp2_with fail
          go_roundw
          case rel => exact ⟨k + 1, by omega, by go_num, HM.out, HB.out⟩
          case measure => simp [intOf]; omega
    · obtain rfl : k = fs.length := by omega
      rw [List.take_length] at hM
      have HM := Lib.hid hM
      have HB := Lib.hid hB
      clear hM hB
      go_wp2_with fail
      go_ret
      exact ⟨rfl, HM.out, HB.out⟩

theorem fV_some (l : L) : fV (some l) = .agg #[.int .i64 l.op, .int .i64 l.to, .int .i64 l.a, .int .i64 l.b] := rfl
theorem fV_none : fV none = .agg #[.int .i64 0, .int .i64 0, .int .i64 0, .int .i64 0] := rfl

set_option maxRecDepth 100000 in
set_option maxHeartbeats 2000000 in
theorem patchOf_any (b : Nat) (f : Int → Option L) (w : World) (hM : MapI w b f) :
    Calls Tryz.prog 134 #[.map (some b)] w (GivesEdits (mpL f) w) := by
  obtain ⟨i0, hi, hz0, hz1, hz2⟩ := info_parts info_edit
  have HM := Lib.hid hM
  clear hM
  go_enter Tryz.func134, Tryz.ntmps134
  go_wp2_with fail
  go_loopw [3, 7] (fun s3 s7 wr => ∃ k : Nat, k ≤ 8 ∧ s7 = .int .i64 k ∧ wr.ownsRow w.heap.size 65 5 s3 (mpTo f k).length (ec (mpTo f k)) ∧ Below w.heap.size w wr) (fun _ s7 _ => 8 - (intOf s7).toNat)
  case atStart => exact ⟨0, Nat.zero_le _, rfl, World.ownsRow_nil _ _ _ _, Below.refl _ _⟩
  case round =>
    obtain ⟨k, hk, rfl, hO, hB⟩ := hrel
    have hml := mpTo_len f k
    by_cases hlt : k < 8
    · have hk1 : (k : Int) < 8 := by omega
      have HMW := Lib.hid (HM.out.low hB)
      have HB := Lib.hid hB
      have HO := Lib.hid hO
      clear hO hB
      cases hf : f (k : Int) with
      | none =>
        have HF := Lib.hid (mpTo_no hf)
        go_wp2_with (at_lookup; refine wpList_look_line rfl _ _ rfl b f rfl HMW.out (k : Int) (by omega) (by omega) rfl none hf ?_; rw [fV_none])
        go_roundw
        case rel => exact ⟨k + 1, by omega, by go_num, by rw [HF.out]; exact own_below HO.out ((Below.refl wr.heap.size wr).alloc (Nat.le_refl _) _) (Nat.le_refl _), HB.out.alloc HB.out.size _⟩
        case measure => simp [intOf]; omega
      | some l =>
        have HF := Lib.hid (mpTo_yes hf)
        have hal : Below wr.heap.size wr (wr.alloc (.cells #[.int .i64 l.op, .int .i64 l.to, .int .i64 l.a, .int .i64 l.b] 63)) := (Below.refl _ _).alloc (Nat.le_refl _) _
        have HBA := Lib.hid (HB.out.trans (hal.mono HB.out.size))
        have HOA := Lib.hid (own_below HO.out hal (Nat.le_refl _))
        clear hal HO
        go_wp2_with (first | (at_lookup; refine wpList_look_line rfl _ _ rfl b f rfl HMW.out (k : Int) (by omega) (by omega) rfl (some l) hf ?_; rw [fV_some]) | (at_builtin; (refine wpList_append_own _ rfl (.tmp 17) (.tmp 21) 23 rfl w.heap.size 65 i0 (.agg #[.int .i64 0, .int .i64 0, .int .i64 0, .int .i64 0, .int .i64 0]) 5 40 Tryz.underlying23 hi hz0 hz1 hz2 rfl (by decide) _ (mpTo f k).length (ec (mpTo f k)) rfl (own_below HOA.out ((Below.refl _ _).alloc (Nat.le_refl _) _) (Nat.le_refl _)) _ 1 1 (ec [⟨(k : Int), l⟩]) rfl rfl ?c2 (ec_one _) ?c4 ?c5 ?c6 ?_)))
        case c2 =>
          intro j u hu
          have e1 : (⟨wr.heap.size + 1, 0, none⟩ : Addr).add j = ⟨wr.heap.size + 1, j, none⟩ := by simp [Addr.add]; omega
          rw [ec_sing] at hu
          rw [e1]
          exact hp_cell (hp_new (by simp)) (by simpa using hu)
        case c4 => unfold maxLen; omega
        case c5 => omega
        case c6 => have := HBA.out.size; simp at this ⊢; omega
        intro v3 w3 hown3 hgrow3 _
        have HB3 := Lib.hid ((HBA.out.alloc HBA.out.size (.cells #[.int .i64 (k : Int), .int .i64 l.op, .int .i64 l.to, .int .i64 l.a, .int .i64 l.b] 65)).grown hgrow3 (by have := HBA.out.size; simp at this ⊢; omega) (fun q hq => (HOA.out.lt q hq).1))
        have HO3 := Lib.hid (show w3.ownsRow w.heap.size 65 5 v3 (mpTo f (k + 1)).length (ec (mpTo f (k + 1))) by rw [HF.out, ec_append, List.length_append, List.length_singleton]; exact hown3)
        clear hown3 hgrow3
        go_wp2_with fail
        go_roundw
        case rel => exact ⟨k + 1, by omega, by go_num, HO3.out, HB3.out⟩
        case measure => simp [intOf]; omega
    · obtain rfl : k = 8 := by omega
      have HO := Lib.hid hO
      have HB := Lib.hid hB
      clear hO hB
      go_wp2_with fail
      go_ret
      exact givesEdits_of rfl HO.out HB.out

end Go.Proofs.YtdcoebeffbkpnaaGreat
