/- Several texts in one. -/
import Derived.Test.YtfclfmloceddfaaGreatPtM
import Derived.Test.YtfclfmloceddfaaGreatPtW
import Derived.Test.YtfclfmloceddfaaGreatEdO
import Derived.Test.YtfclfmloceddfaaGreatPtD
import Derived.Deep.RegionLaw
import Derived.Test.YtfclfmloceddfaaGreatIndB
/- What changes a program: contracts of Do, Inverse, diff, Diff, Clean. -/
set_option linter.unusedVariables false
set_option linter.unusedSimpArgs false
namespace Go.Proofs.YtfclfmloceddfaaGreat
open Go.RowKit Tinker

/-- append to an own row as one step of a region that draws its order. -/
theorem step_append_own {P : Program} {ops : Array Oper} {o : Oper} {a : Act} {w : World} {K : Act → World → Prop} {Q : Exit → Act → World → Prop} {E0 : Prop} (hg : o.guard = none) (s x : Operand) (t : TypeId)
    (ho : o.op = .call { callee := .builtin .append, args := #[s, x], argTypes := #[t, t] })
    (base : Nat) (e : TypeId) (i : TypeInfo) (z : Value) (size bytes : Nat) (ht : P.underlying t = some (.slice e)) (hi : P.info? e = some i) (hz : i.zero = some z)
    (hsize : i.size = size) (hby : i.bytes = bytes) (hzs : z.cells.size = size) (hsz : 0 < size)
    (v : Value) (n : Nat) (xs : List Value) (hs : a.eval s = v) (hown : w.ownsRow base e size v n xs)
    (ad : Addr) (m c : Nat) (news : List Value) (hx : a.eval x = .slice (some ad) m c) (hl : news.length = m * size) (hnews : ∀ j u, news[j]? = some u → w.cell? (ad.add j) = some u) (h1 : ∀ u ∈ news, u.oneCell' = true)
    (h63 : n + m ≤ maxLen) (hbytes : (n + m) * bytes ≤ 140737488355328) (hbase : base ≤ w.heap.size)
    (h : ∀ v' w', w'.ownsRow base e size v' (n + m) (xs ++ news) → w.grownBy w' v.ownBlock → K (a.put o.dst v') w') : if Region.wanted o (yielded ops a.tmps) = true then Oper.wp P o a w K Q else E0 := by
  have hw : Region.wanted o (yielded ops a.tmps) = true := by simp [Region.wanted, hg]
  rw [if_pos hw]
  exact wp_append_own w s x t ho base e i z size bytes ht hi hz hsize hby hzs hsz v n xs hs hown ad m c news hx hl hnews h1 h63 hbytes hbase fun v' w' h2 h3 _ => h v' w' h2 h3

theorem vts_nil : vts [] = 0 := by unfold vts; rfl
theorem tests_nil (w : World) : TestsAt w none [] := .inl rfl
theorem pvalidate0_any (a g : Option Addr) (ca cg : Nat) (ps : List L) (xs : List E) (w : World) (hp : LinesAt w a ps) (hx : EditsAt w g xs) (hm : xs.length ≤ 1000) (hpl : ps.length ≤ 1000) :
    Calls Tryz.prog 22 #[.slice a ps.length ca, .slice g xs.length cg, .slice none 0 0] w fun e w' => e = .returned (.int .i64 (vpx ps xs 0)) ∧ Below w.heap.size w w' := by
  have h := pvalidate_any a g none ca cg 0 ps xs [] w hp hx (tests_nil w) hm (by simp) (fun t ht => by simp at ht) hpl
  rw [vts_nil] at h
  exact h
theorem okX_at {ps : List L} {xs : List E} {c : Int} (h : vpx ps xs c = 0) : (∀ e ∈ xs, 0 ≤ e.at_ ∧ e.at_.toNat < ps.length) ∧ ps.length ≤ 8 ∧ xs.length ≤ 4 := by
  obtain ⟨h1, h2, h3, h4⟩ := vpx_ok h
  obtain ⟨k1, k2, k3⟩ := vx_ok h2
  exact ⟨fun e he => ⟨(k3 e he).1.1, h4 e he⟩, (vp_ok h1).1, k1⟩

/-- What Inverse answers. -/
def inR (ps : List L) (xs : List E) : List E := if vpx ps xs 0 = 0 then invL ps xs else []
theorem inv_take {ps : List L} {xs : List E} {k : Nat} {e : E} {l : L} (he : xs[k]? = some e) (hl : ps[e.at_.toNat]? = some l) : invL ps (xs.take (k + 1)) = invL ps (xs.take k) ++ [⟨e.at_, l⟩] := by
  unfold invL
  rw [List.take_add_one, he, List.map_append]
  show _ ++ [(⟨e.at_, ps.getD e.at_.toNat _⟩ : E)] = _
  rw [getD_of_get hl]
theorem inv_len (ps : List L) (xs : List E) : (invL ps xs).length = xs.length := by unfold invL; rw [List.length_map]

theorem ne_facts {l m : L} (h : eqL l m = false) : (l.op == m.op) = false ∨ ((l.op == m.op) = true ∧ (l.to == m.to) = false) ∨ ((l.op == m.op) = true ∧ (l.to == m.to) = true ∧ (l.a == m.a) = false) ∨ ((l.op == m.op) = true ∧ (l.to == m.to) = true ∧ (l.a == m.a) = true ∧ (l.b == m.b) = false) := by
  unfold eqL at h
  cases h1 : (l.op == m.op)
  · exact .inl rfl
  · cases h2 : (l.to == m.to)
    · exact .inr (.inl ⟨rfl, rfl⟩)
    · cases h3 : (l.a == m.a)
      · exact .inr (.inr (.inl ⟨rfl, rfl, rfl⟩))
      · cases h4 : (l.b == m.b)
        · exact .inr (.inr (.inr ⟨rfl, rfl, rfl, rfl⟩))
        · rw [h1, h2, h3, h4] at h; cases h

end Go.Proofs.YtfclfmloceddfaaGreat

/- What changes a program: contracts of Diff, Clean, distance, Size. -/
set_option linter.unusedVariables false
set_option linter.unusedSimpArgs false
namespace Go.Proofs.YtfclfmloceddfaaGreat
open Go.RowKit Tinker

def dsTo (p0 p1 p2 p3 : Bool) (k : Nat) : Int := if k = 0 then 0 else if k = 1 then b1 p0 else if k = 2 then b1 p0 + b1 p1 else if k = 3 then b1 p0 + b1 p1 + b1 p2 else b1 p0 + b1 p1 + b1 p2 + b1 p3
theorem dsTo_le (p0 p1 p2 p3 : Bool) (k : Nat) : 0 ≤ dsTo p0 p1 p2 p3 k ∧ dsTo p0 p1 p2 p3 k ≤ 4 := by
  have := b1_le p0; have := b1_le p1; have := b1_le p2; have := b1_le p3
  unfold dsTo
  split
  · omega
  · split
    · omega
    · split
      · omega
      · split <;> omega
theorem ds_1 (p0 p1 p2 p3 : Bool) : dsTo p0 p1 p2 p3 1 = dsTo p0 p1 p2 p3 0 + b1 p0 := by simp [dsTo]
theorem ds_2 (p0 p1 p2 p3 : Bool) : dsTo p0 p1 p2 p3 2 = dsTo p0 p1 p2 p3 1 + b1 p1 := by simp [dsTo]
theorem ds_3 (p0 p1 p2 p3 : Bool) : dsTo p0 p1 p2 p3 3 = dsTo p0 p1 p2 p3 2 + b1 p2 := by simp [dsTo]
theorem ds_4 (p0 p1 p2 p3 : Bool) : dsTo p0 p1 p2 p3 4 = dsTo p0 p1 p2 p3 3 + b1 p3 := by simp [dsTo]

theorem ix0 (p0 p1 p2 p3 : Bool) (w : World) : (Instr.index 133 (.agg #[.bool p0, .bool p1, .bool p2, .bool p3]) (.int .i64 0)).run Tryz.prog w = .ok (.bool p0) w := by kernel_rfl
theorem iy0 (p0 p1 p2 p3 : Bool) (w : World) : (Instr.index 133 (.agg #[.bool p0, .bool p1, .bool p2, .bool p3]) (.int .i64 ((0 : Nat) : Int))).run Tryz.prog w = .ok (.bool p0) w := by kernel_rfl
theorem ix1 (p0 p1 p2 p3 : Bool) (w : World) : (Instr.index 133 (.agg #[.bool p0, .bool p1, .bool p2, .bool p3]) (.int .i64 1)).run Tryz.prog w = .ok (.bool p1) w := by kernel_rfl
theorem iy1 (p0 p1 p2 p3 : Bool) (w : World) : (Instr.index 133 (.agg #[.bool p0, .bool p1, .bool p2, .bool p3]) (.int .i64 ((1 : Nat) : Int))).run Tryz.prog w = .ok (.bool p1) w := by kernel_rfl
theorem ix2 (p0 p1 p2 p3 : Bool) (w : World) : (Instr.index 133 (.agg #[.bool p0, .bool p1, .bool p2, .bool p3]) (.int .i64 2)).run Tryz.prog w = .ok (.bool p2) w := by kernel_rfl
theorem iy2 (p0 p1 p2 p3 : Bool) (w : World) : (Instr.index 133 (.agg #[.bool p0, .bool p1, .bool p2, .bool p3]) (.int .i64 ((2 : Nat) : Int))).run Tryz.prog w = .ok (.bool p2) w := by kernel_rfl
theorem ix3 (p0 p1 p2 p3 : Bool) (w : World) : (Instr.index 133 (.agg #[.bool p0, .bool p1, .bool p2, .bool p3]) (.int .i64 3)).run Tryz.prog w = .ok (.bool p3) w := by kernel_rfl
theorem iy3 (p0 p1 p2 p3 : Bool) (w : World) : (Instr.index 133 (.agg #[.bool p0, .bool p1, .bool p2, .bool p3]) (.int .i64 ((3 : Nat) : Int))).run Tryz.prog w = .ok (.bool p3) w := by kernel_rfl

set_option maxRecDepth 100000 in
set_option maxHeartbeats 2000000 in
theorem distance_any (l m : L) (w : World) : Calls Tryz.prog 90 #[lv l, lv m] w fun e w' => e = .returned (.int .i64 (dsN l m)) ∧ Below w.heap.size w w' := by
  have HB := Lib.hid (show Below w.heap.size w ((w.alloc (.cells #[.int .i64 l.op, .int .i64 l.to, .int .i64 l.a, .int .i64 l.b] 42)).alloc (.cells #[.int .i64 m.op, .int .i64 m.to, .int .i64 m.a, .int .i64 m.b] 42)) from ((Below.refl _ _).alloc (Nat.le_refl _) _).alloc (by simp) _)
  have HD := Lib.hid (show dsTo (l.op != m.op) (l.to != m.to) (l.a != m.a) (l.b != m.b) 4 = dsN l m from rfl)
  unfold lv
  go_enter Tryz.func90, Tryz.ntmps90
  go_wp2_with fail
  generalize ((w.alloc (.cells #[.int .i64 l.op, .int .i64 l.to, .int .i64 l.a, .int .i64 l.b] 42)).alloc (.cells #[.int .i64 m.op, .int .i64 m.to, .int .i64 m.a, .int .i64 m.b] 42)) = w1 at HB ⊢
  generalize (l.op != m.op) = p0 at HD ⊢
  generalize (l.to != m.to) = p1 at HD ⊢
  generalize (l.a != m.a) = p2 at HD ⊢
  generalize (l.b != m.b) = p3 at HD ⊢
  go_loopw [5, 29] (fun s5 s29 wr => ∃ k : Nat, k ≤ 4 ∧ s5 = .int .i64 (dsTo p0 p1 p2 p3 k) ∧ s29 = .int .i64 k ∧ Below w.heap.size w wr) (fun _ s29 _ => 4 - (intOf s29).toNat)
  case atStart => exact ⟨0, Nat.zero_le _, rfl, rfl, HB.out⟩
  case round =>
    clear HB
    obtain ⟨k, hk, rfl, rfl, hB⟩ := hrel
    have HB := Lib.hid hB
    clear hB
    by_cases hlt : k < 4
    · obtain ⟨n0, n4⟩ := dsTo_le p0 p1 p2 p3 k
      have hkk : k = 0 ∨ k = 1 ∨ k = 2 ∨ k = 3 := by omega
      rcases hkk with rfl | rfl | rfl | rfl
      · have HS := Lib.hid (ds_1 p0 p1 p2 p3)
        have hi := ix0 p0 p1 p2 p3
        have hj := iy0 p0 p1 p2 p3
        generalize dsTo p0 p1 p2 p3 0 = n at HS n0 n4 ⊢
        cases p0
        · go_wp2_with fail
          go_roundw
          case rel => exact ⟨1, by omega, by rw [HS.out]; simp [b1], rfl, HB.out⟩
          case measure => simp [intOf]
        · go_wp2_with fail
          go_roundw
          case rel => exact ⟨1, by omega, by rw [HS.out]; unfold b1; go_num, rfl, HB.out⟩
          case measure => simp [intOf]
      · have HS := Lib.hid (ds_2 p0 p1 p2 p3)
        have hi := ix1 p0 p1 p2 p3
        have hj := iy1 p0 p1 p2 p3
        generalize dsTo p0 p1 p2 p3 1 = n at HS n0 n4 ⊢
        cases p1
        · go_wp2_with fail
          go_roundw
          case rel => exact ⟨2, by omega, by rw [HS.out]; simp [b1], rfl, HB.out⟩
          case measure => simp [intOf]
        · go_wp2_with fail
          go_roundw
          case rel => exact ⟨2, by omega, by rw [HS.out]; unfold b1; go_num, rfl, HB.out⟩
          case measure => simp [intOf]
      · have HS := Lib.hid (ds_3 p0 p1 p2 p3)
        have hi := ix2 p0 p1 p2 p3
        have hj := iy2 p0 p1 p2 p3
        generalize dsTo p0 p1 p2 p3 2 = n at HS n0 n4 ⊢
        cases p2
        · go_wp2_with fail
          go_roundw
          case rel => exact ⟨3, by omega, by rw [HS.out]; simp [b1], rfl, HB.out⟩
          case measure => simp [intOf]
        · go_wp2_with fail
          go_roundw
          case rel => exact ⟨3, by omega, by rw [HS.out]; unfold b1; go_num, rfl, HB.out⟩
          case measure => simp [intOf]
      · have HS := Lib.hid (ds_4 p0 p1 p2 p3)
        have hi := ix3 p0 p1 p2 p3
        have hj := iy3 p0 p1 p2 p3
        generalize dsTo p0 p1 p2 p3 3 = n at HS n0 n4 ⊢
        cases p3
        · go_wp2_with fail
          go_roundw
          case rel => exact ⟨4, by omega, by rw [HS.out]; simp [b1], rfl, HB.out⟩
          case measure => simp [intOf]
        · go_wp2_with fail
          go_roundw
          case rel => exact ⟨4, by omega, by rw [HS.out]; unfold b1; go_num, rfl, HB.out⟩
          case measure => simp [intOf]
    · obtain rfl : k = 4 := by omega
      go_wp2_with fail
      go_ret
      exact ⟨ret_int HD.out, HB.out⟩

theorem sz_take {ps : List L} {xs : List E} {k : Nat} {e : E} {l : L} (he : xs[k]? = some e) (hl : ps[e.at_.toNat]? = some l) : szL ps (xs.take (k + 1)) = szL ps (xs.take k) + dsN e.ln l := by
  rw [List.take_add_one, he]
  show szL ps (xs.take k ++ [e]) = _
  rw [szL_snoc, lnD_at hl]

set_option maxRecDepth 100000 in
set_option maxHeartbeats 2000000 in
theorem pSize_any (a g : Option Addr) (ca cg : Nat) (ps : List L) (xs : List E) (w : World) (hp : LinesAt w a ps) (hx : EditsAt w g xs) (hm : xs.length ≤ 1000) (hpl : ps.length ≤ 1000) :
    Calls Tryz.prog 59 #[.slice a ps.length ca, .slice g xs.length cg] w fun e w' => e = .returned (.tuple #[.int .i64 (szR ps xs), .int .i64 (vpx ps xs 0)]) ∧ Below w.heap.size w w' := by
  have HV := Lib.hid (pvalidate0_any a g ca cg ps xs w hp hx hm hpl)
  by_cases hz : vpx ps xs 0 = 0
  · obtain ⟨h1, h2, h3⟩ := okX_at hz
    have H1 := Lib.hid h1
    have HE := Lib.hid (show szR ps xs = szL ps xs by unfold szR; rw [if_pos hz])
    rw [HE.out, hz]
    rw [hz] at HV
    clear hz h1 HE
    go_enter Tryz.func59, Tryz.ntmps59
    go_wp2_with fail
    refine HV.out.mono ?_
    rintro e w1 ⟨rfl, hB⟩
    have HB := Lib.hid hB
    clear hB
    go_wp2_with fail
    go_loopw [7, 18] (fun s7 s18 wr => ∃ k : Nat, k ≤ xs.length ∧ s18 = .int .i64 k ∧ s7 = .int .i64 (szL ps (xs.take k)) ∧ Below w.heap.size w wr) (fun _ s18 _ => xs.length - (intOf s18).toNat)
    case atStart => exact ⟨0, Nat.zero_le _, rfl, rfl, HB.out⟩
    case round =>
      clear HB
      obtain ⟨k, hk, rfl, rfl, hB⟩ := hrel
      by_cases hlt : k < xs.length
      · obtain ⟨b, off, e, rfl, hlb, he, c0, c1, c2, c3, c4⟩ := (hx.below hB (Nat.le_refl _)).at_ hlt
        obtain ⟨a0, a1⟩ := H1.out e (mem_of_get he)
        obtain ⟨b2, off2, l, rfl, hlb2, hl, d0, d1, d2, d3⟩ := (hp.below hB (Nat.le_refl _)).at_ a1
        have a2 : e.at_ < (ps.length : Int) := by omega
        have HS := Lib.hid (sz_take he hl)
        obtain ⟨n0, n4⟩ := szL_le ps (xs.take k)
        have n5 : szL ps (xs.take k) ≤ 16 := by rw [List.length_take] at n4; omega
        obtain ⟨m0, m4⟩ := dsN_le e.ln l
        have HD := Lib.hid (fun w => distance_any e.ln l w)
        have HBA := Lib.hid (hB.alloc hB.size (.cells #[.int .i64 e.at_, .int .i64 e.ln.op, .int .i64 e.ln.to, .int .i64 e.ln.a, .int .i64 e.ln.b] 49))
        unfold lv at HD
        clear he hl hB hx hp n4
        generalize szL ps (xs.take k) = n at HS n0 n5 ⊢
        generalize dsN e.ln l = d at HS HD m0 m4
        go_wp2_with fail
        go_region_with (go_at_call 90; refine (HD.out _).mono ?_; rintro ex w3 ⟨rfl, hB3⟩; have HB3 := Lib.hid (HBA.out.drew.trans (hB3.mono HBA.out.size)); clear hB3)
        all_goals go_wp2_with fail
        all_goals go_roundw
        all_goals first | exact ⟨k + 1, by omega, by go_num, (by rw [HS.out]; try go_num), HB3.out⟩ | (simp [intOf]; omega)
      · obtain rfl : k = xs.length := by omega
        have HQ := Lib.hid (show szL ps (xs.take xs.length) = szL ps xs by rw [List.take_length])
        have HB := Lib.hid hB
        clear hB
        generalize szL ps (xs.take xs.length) = n at HQ ⊢
        go_wp2_with fail
        go_ret2
        exact ⟨by rw [← HQ.out]; rfl, HB.out⟩
  · have HE := Lib.hid (show szR ps xs = 0 by unfold szR; rw [if_neg hz])
    rw [HE.out]
    generalize vpx ps xs 0 = c at HV hz ⊢
    have hz1 : (c != 0) = true := by simpa using hz
    have hz2 : (c == 0) = false := by simpa using hz
    clear hz HE
    go_enter Tryz.func59, Tryz.ntmps59
    go_wp2_with fail
    refine HV.out.mono ?_
    rintro e w1 ⟨rfl, hB⟩
    have HB := Lib.hid hB
    clear hB
    go_wp2_with fail
    go_ret2
    exact ⟨rfl, HB.out⟩

/-- What Clean answers, as the code finds it. -/
def clQ (ps : List L) (xs : List E) : List E := if vpx ps xs 0 = 0 then dfL ps (doL ps xs) else []

end Go.Proofs.YtfclfmloceddfaaGreat
