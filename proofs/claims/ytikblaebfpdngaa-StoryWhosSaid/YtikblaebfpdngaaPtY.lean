/- What changes a program: contracts of Do, Inverse, diff, Diff, Clean. -/
import Derived.Test.YtikblaebfpdngaaPtM
import Derived.Test.YtikblaebfpdngaaPtW
import Derived.Test.YtikblaebfpdngaaEdO
import Derived.Test.YtikblaebfpdngaaPtD
import Derived.Deep.RegionLaw
set_option linter.unusedVariables false
set_option linter.unusedSimpArgs false
namespace Go.Proofs.Ytikblaebfpdngaa
open Go.RowKit Tinker

/-- append to an own row as one step of a region that draws its order. -/
theorem step_append_own {P : Program} {ops : Array Oper} {o : Oper} {a : Act} {w : World} {K : Act → World → Prop} {Q : Exit → Act → World → Prop} {E0 : Prop} (hg : o.guard = none) (s x : Operand) (t : TypeId)
    (ho : o.op = .call { callee := .builtin .append, args := #[s, x], argTypes := #[t, t] })
    (base : Nat) (e : TypeId) (i : TypeInfo) (z : Value) (size bytes : Nat) (ht : P.underlying t = some (.slice e)) (hi : P.info? e = some i) (hz : i.zero = some z)
    (hsize : i.size = size) (hby : i.bytes = bytes) (hzs : z.cells.size = size) (hsz : 0 < size)
    (v : Value) (n : Nat) (xs : List Value) (hs : a.eval s = v) (hown : w.ownsRow base e size v n xs)
    (ad : Addr) (m c : Nat) (news : List Value) (hx : a.eval x = .slice (some ad) m c) (hl : news.length = m * size) (hnews : ∀ j u, news[j]? = some u → w.cell? (ad.add j) = some u) (h1 : ∀ u ∈ news, u.oneCell' = true)
    (h63 : n + m ≤ maxLen) (hbytes : (n + m) * bytes ≤ 140737488355328) (hbase : base ≤ w.heap.size)
    (h : ∀ v' w', w'.ownsRow base e size v' (n + m) (xs ++ news) → w.grownBy w' v.ownBlock → K (a.put o.dst v') w') : if Region.wanted o (yielded ops a.tmps) = true then Oper.wp P o a w K Q else E0 := by
  have hw : Region.wanted o (yielded ops a.tmps) = true := by simp [Region.wanted, hg]
  rw [if_pos hw]
  exact wp_append_own w s x t ho base e i z size bytes ht hi hz hsize hby hzs hsz v n xs hs hown ad m c news hx hl hnews h1 h63 hbytes hbase fun v' w' h2 h3 _ => h v' w' h2 h3

theorem vts_nil : vts [] = 0 := by unfold vts; rfl
theorem tests_nil (w : World) : TestsAt w none [] := .inl rfl
theorem pvalidate0_any (a g : Option Addr) (ca cg : Nat) (ps : List L) (xs : List E) (w : World) (hp : LinesAt w a ps) (hx : EditsAt w g xs) (hm : xs.length ≤ 1000) (hpl : ps.length ≤ 1000) :
    Calls Try.prog 84 #[.slice a ps.length ca, .slice g xs.length cg, .slice none 0 0] w fun e w' => e = .returned (.int .i64 (vpx ps xs 0)) ∧ Below w.heap.size w w' := by
  have h := pvalidate_any a g none ca cg 0 ps xs [] w hp hx (tests_nil w) hm (by simp) (fun t ht => by simp at ht) hpl
  rw [vts_nil] at h
  exact h
theorem okX_at {ps : List L} {xs : List E} {c : Int} (h : vpx ps xs c = 0) : (∀ e ∈ xs, 0 ≤ e.at_ ∧ e.at_.toNat < ps.length) ∧ ps.length ≤ 8 ∧ xs.length ≤ 4 := by
  obtain ⟨h1, h2, h3, h4⟩ := vpx_ok h
  obtain ⟨k1, k2, k3⟩ := vx_ok h2
  exact ⟨fun e he => ⟨(k3 e he).1.1, h4 e he⟩, (vp_ok h1).1, k1⟩

set_option maxRecDepth 100000 in
set_option maxHeartbeats 1000000 in
theorem pDo_any (a g : Option Addr) (ca cg : Nat) (ps : List L) (xs : List E) (w : World) (hp : LinesAt w a ps) (hx : EditsAt w g xs) (hm : xs.length ≤ 1000) (hpl : ps.length ≤ 1000) :
    Calls Try.prog 65 #[.slice a ps.length ca, .slice g xs.length cg] w (GivesLinesE (doP ps xs) (vpx ps xs 0) w) := by
  have HV := Lib.hid (pvalidate0_any a g ca cg ps xs w hp hx hm hpl)
  by_cases hz : vpx ps xs 0 = 0
  · obtain ⟨h1, h2, h3⟩ := okX_at hz
    have HD := Lib.hid (fun w h h' => pdo_any a g ca cg ps xs w h h' h2 h3 h1)
    have HE := Lib.hid (show doP ps xs = doL ps xs by unfold doP; rw [if_pos hz])
    rw [HE.out, hz]
    rw [hz] at HV
    clear hz h1 h2 h3 HE
    go_enter Try.func65, Try.ntmps65
    go_wp2_with fail
    refine HV.out.mono ?_
    rintro e w1 ⟨rfl, hB⟩
    have HB := Lib.hid hB
    clear hB
    go_wp2_with fail
    refine (HD.out _ (hp.below HB.out (Nat.le_refl _)) (hx.below HB.out (Nat.le_refl _))).mono ?_
    intro e w2 hG
    obtain ⟨a2, c2, rfl, ho, hB2⟩ := hG.wide HB.out
    have HO := Lib.hid ho
    have HB2 := Lib.hid hB2
    clear hG ho hB2
    go_wp2_with fail
    go_ret2
    exact ⟨a2, c2, rfl, HO.out, HB2.out⟩
  · have HE := Lib.hid (show doP ps xs = [] by unfold doP; rw [if_neg hz])
    rw [HE.out]
    generalize vpx ps xs 0 = c at HV hz ⊢
    have hz1 : (c != 0) = true := by simpa using hz
    have hz2 : (c == 0) = false := by simpa using hz
    clear hz HE
    go_enter Try.func65, Try.ntmps65
    go_wp2_with fail
    refine HV.out.mono ?_
    rintro e w1 ⟨rfl, hB⟩
    have HB := Lib.hid hB
    clear hB
    go_wp2_with fail
    go_ret2
    exact givesLinesE_nil HB.out

/-- What Inverse answers. -/
def inR (ps : List L) (xs : List E) : List E := if vpx ps xs 0 = 0 then invL ps xs else []
theorem inv_take {ps : List L} {xs : List E} {k : Nat} {e : E} {l : L} (he : xs[k]? = some e) (hl : ps[e.at_.toNat]? = some l) : invL ps (xs.take (k + 1)) = invL ps (xs.take k) ++ [⟨e.at_, l⟩] := by
  unfold invL
  rw [List.take_add_one, he, List.map_append]
  show _ ++ [(⟨e.at_, ps.getD e.at_.toNat _⟩ : E)] = _
  rw [getD_of_get hl]
theorem inv_len (ps : List L) (xs : List E) : (invL ps xs).length = xs.length := by unfold invL; rw [List.length_map]

theorem ne_facts {l m : L} (h : eqL l m = false) : (l.op == m.op) = false ∨ ((l.op == m.op) = true ∧ (l.to == m.to) = false) ∨ ((l.op == m.op) = true ∧ (l.to == m.to) = true ∧ (l.a == m.a) = false) ∨ ((l.op == m.op) = true ∧ (l.to == m.to) = true ∧ (l.a == m.a) = true ∧ (l.b == m.b) = false) := by
  unfold eqL at h
  cases h1 : (l.op == m.op)
  · exact .inl rfl
  · cases h2 : (l.to == m.to)
    · exact .inr (.inl ⟨rfl, rfl⟩)
    · cases h3 : (l.a == m.a)
      · exact .inr (.inr (.inl ⟨rfl, rfl, rfl⟩))
      · cases h4 : (l.b == m.b)
        · exact .inr (.inr (.inr ⟨rfl, rfl, rfl, rfl⟩))
        · rw [h1, h2, h3, h4] at h; cases h

set_option maxRecDepth 100000 in
set_option maxHeartbeats 2000000 in
theorem pdiff_any (a g : Option Addr) (ca cg : Nat) (ps qs : List L) (w : World) (hp : LinesAt w a ps) (hq : LinesAt w g qs) (hl : ps.length = qs.length) (hm : qs.length ≤ 8) :
    Calls Try.prog 80 #[.slice a ps.length ca, .slice g qs.length cg] w (GivesEdits (dfL ps qs) w) := by
  obtain ⟨i0, hi, hz0, hz1, hz2⟩ := info_parts info_edit
  have HL := Lib.hid hl
  clear hl
  go_enter Try.func80, Try.ntmps80
  go_wp2_with fail
  go_loopw [5, 10] (fun s5 s10 wr => ∃ k : Nat, k ≤ qs.length ∧ s10 = .int .i64 k ∧ wr.ownsRow w.heap.size 50 5 s5 (dfTo ps qs k).length (ec (dfTo ps qs k)) ∧ Below w.heap.size w wr) (fun _ s10 _ => qs.length - (intOf s10).toNat)
  case atStart => exact ⟨0, Nat.zero_le _, rfl, World.ownsRow_nil _ _ _ _, Below.refl _ _⟩
  case round =>
    obtain ⟨k, hk, rfl, hO, hB⟩ := hrel
    have hdl := dfTo_len ps qs k
    by_cases hlt : k < qs.length
    · obtain ⟨b, off, l, rfl, hlb, hl1, c0, c1, c2, c3⟩ := (hq.below hB (Nat.le_refl _)).at_ hlt
      have hkp : k < ps.length := by rw [HL.out]; exact hlt
      obtain ⟨b2, off2, m, rfl, hlb2, hm1, d0, d1, d2, d3⟩ := (hp.below hB (Nat.le_refl _)).at_ hkp
      obtain ⟨va, vc, rfl⟩ := own_slice hO
      have HO := Lib.hid hO
      have HB := Lib.hid hB
      have hal : Below wr.heap.size wr (wr.alloc (.cells #[.int .i64 l.op, .int .i64 l.to, .int .i64 l.a, .int .i64 l.b] 33)) := (Below.refl _ _).alloc (Nat.le_refl _) _
      have HBA := Lib.hid (hB.trans (hal.mono hB.size))
      have HOA := Lib.hid (own_below hO hal (Nat.le_refl _))
      cases he : eqL l m
      · have HS := Lib.hid (dfTo_yes hm1 hl1 he)
        have HNE := Lib.hid (ne_facts he)
        clear hl1 hm1 hO hB hp hq HO HB hal he
        go_upto_region 5 with fail
        go_cut [20] (fun s20 wx => s20 = .bool true ∧ Below w.heap.size w wx ∧ wx.ownsRow w.heap.size 50 5 (.slice va (dfTo ps qs k).length vc) (dfTo ps qs k).length (ec (dfTo ps qs k)) ∧ wx.heap[wr.heap.size]? = some (.cells #[.int .i64 l.op, .int .i64 l.to, .int .i64 l.a, .int .i64 l.b] 33 (0, 0)))
        case first =>
          rcases HNE.out with h1 | ⟨h1, h2⟩ | ⟨h1, h2, h3⟩ | ⟨h1, h2, h3, h4⟩
          all_goals go_quiet (fail)
          all_goals go_wp2_with fail
          all_goals go_meet
          all_goals exact ⟨rfl, HBA.out.trans ⟨rfl, rfl, rfl, Nat.le_refl _, fun _ _ => rfl⟩, own_below HOA.out ⟨rfl, rfl, rfl, Nat.le_refl _, fun _ _ => rfl⟩ (Nat.le_refl _), hp_new rfl⟩
        case rest =>
          clear HBA HOA
          obtain ⟨rfl, hB2, hO2, hbx⟩ := hcut
          generalize wr.heap.size = X at hbx
          have x0 := hp_cell hbx (j := 0) (by rfl)
          have x1 := hp_cell hbx (j := 1) (by rfl)
          have x2 := hp_cell hbx (j := 2) (by rfl)
          have x3 := hp_cell hbx (j := 3) (by rfl)
          have HB2 := Lib.hid hB2
          have HO2 := Lib.hid hO2
          clear hB2 hO2 hbx
          go_wp2_with (at_builtin; (refine wpList_append_own _ rfl (.tmp 21) (.tmp 25) 46 rfl w.heap.size 50 i0 (.agg #[.int .i64 0, .int .i64 0, .int .i64 0, .int .i64 0, .int .i64 0]) 5 40 Try.underlying46 hi hz0 hz1 hz2 rfl (by decide) _ (dfTo ps qs k).length (ec (dfTo ps qs k)) rfl (own_below HO2.out ((Below.refl _ _).alloc (Nat.le_refl _) _) (Nat.le_refl _)) _ 1 1 (ec [⟨(k : Int), l⟩]) rfl rfl ?c2 (ec_one _) ?c4 ?c5 ?c6 ?_))
          case c2 => exact cells_newE _ ⟨(k : Int), l⟩
          case c4 => unfold maxLen; omega
          case c5 => omega
          case c6 => have := HB2.out.size; simp at this ⊢; omega
          intro v3 w3 hown3 hgrow3 _
          have HB3 := Lib.hid ((HB2.out.alloc HB2.out.size (.cells #[.int .i64 (k : Int), .int .i64 l.op, .int .i64 l.to, .int .i64 l.a, .int .i64 l.b] 50)).grown hgrow3 (by have := HB2.out.size; simp at this ⊢; omega) (fun q hq => (HO2.out.lt q hq).1))
          have HO3 := Lib.hid (show w3.ownsRow w.heap.size 50 5 v3 (dfTo ps qs (k + 1)).length (ec (dfTo ps qs (k + 1))) by rw [HS.out, ec_append, List.length_append, List.length_singleton]; exact hown3)
          clear hown3 hgrow3 x0 x1 x2 x3
          go_wp2_with fail
          go_roundw
          case rel => exact ⟨k + 1, by omega, by go_num, HO3.out, HB3.out⟩
          case measure => simp [intOf]; omega
      · have HS := Lib.hid (dfTo_no hm1 hl1 he)
        obtain rfl := eqL_iff.1 he
        clear hl1 hm1 hO hB hp hq he hal
        go_wp2_with fail
        go_quiet (fail)
        go_wp2_with fail
        go_roundw
        case rel => exact ⟨k + 1, by omega, by go_num, by rw [HS.out]; exact own_below HOA.out ⟨rfl, rfl, rfl, Nat.le_refl _, fun _ _ => rfl⟩ (Nat.le_refl _), HBA.out.trans ⟨rfl, rfl, rfl, Nat.le_refl _, fun _ _ => rfl⟩⟩
        case measure => simp [intOf]; omega
    · obtain rfl : k = qs.length := by omega
      have HO := Lib.hid hO
      have HB := Lib.hid hB
      clear hO hB
      go_wp2_with fail
      go_ret
      exact givesEdits_of rfl HO.out HB.out

end Go.Proofs.Ytikblaebfpdngaa
