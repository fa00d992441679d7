/- Several texts in one. -/
import Derived.Test.YtdcoebeffbkpnaaGreatPtM
import Derived.Test.YtdcoebeffbkpnaaGreatPtW
import Derived.Test.YtdcoebeffbkpnaaGreatEdO
import Derived.Test.YtdcoebeffbkpnaaGreatPtD
import Derived.Deep.RegionLaw
import Derived.Test.YtdcoebeffbkpnaaGreatIndB
/- What changes a program: contracts of Do, Inverse, diff, Diff, Clean. -/
set_option linter.unusedVariables false
set_option linter.unusedSimpArgs false
namespace Go.Proofs.YtdcoebeffbkpnaaGreat
open Go.RowKit Tinker

/-- append to an own row as one step of a region that draws its order. -/
theorem step_append_own {P : Program} {ops : Array Oper} {o : Oper} {a : Act} {w : World} {K : Act → World → Prop} {Q : Exit → Act → World → Prop} {E0 : Prop} (hg : o.guard = none) (s x : Operand) (t : TypeId)
    (ho : o.op = .call { callee := .builtin .append, args := #[s, x], argTypes := #[t, t] })
    (base : Nat) (e : TypeId) (i : TypeInfo) (z : Value) (size bytes : Nat) (ht : P.underlying t = some (.slice e)) (hi : P.info? e = some i) (hz : i.zero = some z)
    (hsize : i.size = size) (hby : i.bytes = bytes) (hzs : z.cells.size = size) (hsz : 0 < size)
    (v : Value) (n : Nat) (xs : List Value) (hs : a.eval s = v) (hown : w.ownsRow base e size v n xs)
    (ad : Addr) (m c : Nat) (news : List Value) (hx : a.eval x = .slice (some ad) m c) (hl : news.length = m * size) (hnews : ∀ j u, news[j]? = some u → w.cell? (ad.add j) = some u) (h1 : ∀ u ∈ news, u.oneCell' = true)
    (h63 : n + m ≤ maxLen) (hbytes : (n + m) * bytes ≤ 140737488355328) (hbase : base ≤ w.heap.size)
    (h : ∀ v' w', w'.ownsRow base e size v' (n + m) (xs ++ news) → w.grownBy w' v.ownBlock → K (a.put o.dst v') w') : if Region.wanted o (yielded ops a.tmps) = true then Oper.wp P o a w K Q else E0 := by
  have hw : Region.wanted o (yielded ops a.tmps) = true := by simp [Region.wanted, hg]
  rw [if_pos hw]
  exact wp_append_own w s x t ho base e i z size bytes ht hi hz hsize hby hzs hsz v n xs hs hown ad m c news hx hl hnews h1 h63 hbytes hbase fun v' w' h2 h3 _ => h v' w' h2 h3

theorem vts_nil : vts [] = 0 := by unfold vts; rfl
theorem tests_nil (w : World) : TestsAt w none [] := .inl rfl
theorem pvalidate0_any (a g : Option Addr) (ca cg : Nat) (ps : List L) (xs : List E) (w : World) (hp : LinesAt w a ps) (hx : EditsAt w g xs) (hm : xs.length ≤ 1000) (hpl : ps.length ≤ 1000) :
    Calls Tryz.prog 42 #[.slice a ps.length ca, .slice g xs.length cg, .slice none 0 0] w fun e w' => e = .returned (.int .i64 (vpx ps xs 0)) ∧ Below w.heap.size w w' := by
  have h := pvalidate_any a g none ca cg 0 ps xs [] w hp hx (tests_nil w) hm (by simp) (fun t ht => by simp at ht) hpl
  rw [vts_nil] at h
  exact h
theorem okX_at {ps : List L} {xs : List E} {c : Int} (h : vpx ps xs c = 0) : (∀ e ∈ xs, 0 ≤ e.at_ ∧ e.at_.toNat < ps.length) ∧ ps.length ≤ 8 ∧ xs.length ≤ 4 := by
  obtain ⟨h1, h2, h3, h4⟩ := vpx_ok h
  obtain ⟨k1, k2, k3⟩ := vx_ok h2
  exact ⟨fun e he => ⟨(k3 e he).1.1, h4 e he⟩, (vp_ok h1).1, k1⟩

set_option maxRecDepth 100000 in
set_option maxHeartbeats 1000000 in
theorem pDo_any (a g : Option Addr) (ca cg : Nat) (ps : List L) (xs : List E) (w : World) (hp : LinesAt w a ps) (hx : EditsAt w g xs) (hm : xs.length ≤ 1000) (hpl : ps.length ≤ 1000) :
    Calls Tryz.prog 30 #[.slice a ps.length ca, .slice g xs.length cg] w (GivesLinesE (doP ps xs) (vpx ps xs 0) w) := by
  have HV := Lib.hid (pvalidate0_any a g ca cg ps xs w hp hx hm hpl)
  by_cases hz : vpx ps xs 0 = 0
  · obtain ⟨h1, h2, h3⟩ := okX_at hz
    have HD := Lib.hid (fun w h h' => pdo_any a g ca cg ps xs w h h' h2 h3 h1)
    have HE := Lib.hid (show doP ps xs = doL ps xs by unfold doP; rw [if_pos hz])
    rw [HE.out, hz]
    rw [hz] at HV
    clear hz h1 h2 h3 HE
    go_enter Tryz.func30, Tryz.ntmps30
    go_wp2_with fail
    refine HV.out.mono ?_
    rintro e w1 ⟨rfl, hB⟩
    have HB := Lib.hid hB
    clear hB
    go_wp2_with fail
    refine (HD.out _ (hp.below HB.out (Nat.le_refl _)) (hx.below HB.out (Nat.le_refl _))).mono ?_
    intro e w2 hG
    obtain ⟨a2, c2, rfl, ho, hB2⟩ := hG.wide HB.out
    have HO := Lib.hid ho
    have HB2 := Lib.hid hB2
    clear hG ho hB2
    go_wp2_with fail
    go_ret2
    exact ⟨a2, c2, rfl, HO.out, HB2.out⟩
  · have HE := Lib.hid (show doP ps xs = [] by unfold doP; rw [if_neg hz])
    rw [HE.out]
    generalize vpx ps xs 0 = c at HV hz ⊢
    have hz1 : (c != 0) = true := by simpa using hz
    have hz2 : (c == 0) = false := by simpa using hz
    clear hz HE
    go_enter Tryz.func30, Tryz.ntmps30
    go_wp2_with fail
    refine HV.out.mono ?_
    rintro e w1 ⟨rfl, hB⟩
    have HB := Lib.hid hB
    clear hB
    go_wp2_with fail
    go_ret2
    exact givesLinesE_nil HB.out

/-- What Inverse answers. -/
def inR (ps : List L) (xs : List E) : List E := if vpx ps xs 0 = 0 then invL ps xs else []
theorem inv_take {ps : List L} {xs : List E} {k : Nat} {e : E} {l : L} (he : xs[k]? = some e) (hl : ps[e.at_.toNat]? = some l) : invL ps (xs.take (k + 1)) = invL ps (xs.take k) ++ [⟨e.at_, l⟩] := by
  unfold invL
  rw [List.take_add_one, he, List.map_append]
  show _ ++ [(⟨e.at_, ps.getD e.at_.toNat _⟩ : E)] = _
  rw [getD_of_get hl]
theorem inv_len (ps : List L) (xs : List E) : (invL ps xs).length = xs.length := by unfold invL; rw [List.length_map]

set_option maxRecDepth 100000 in
set_option maxHeartbeats 2000000 in
theorem pInverse_any (a g : Option Addr) (ca cg : Nat) (ps : List L) (xs : List E) (w : World) (hp : LinesAt w a ps) (hx : EditsAt w g xs) (hm : xs.length ≤ 1000) (hpl : ps.length ≤ 1000) :
    Calls Tryz.prog 31 #[.slice a ps.length ca, .slice g xs.length cg] w (GivesEditsE (inR ps xs) (vpx ps xs 0) w) := by
  obtain ⟨i0, hi, hz0, hz1, hz2⟩ := info_parts info_edit
  have HV := Lib.hid (pvalidate0_any a g ca cg ps xs w hp hx hm hpl)
  by_cases hz : vpx ps xs 0 = 0
  · obtain ⟨h1, h2, h3⟩ := okX_at hz
    have H1 := Lib.hid h1
    have HE := Lib.hid (show inR ps xs = invL ps xs by unfold inR; rw [if_pos hz])
    rw [HE.out, hz]
    rw [hz] at HV
    clear hz h1 HE
    go_enter Tryz.func31, Tryz.ntmps31
    go_wp2_with fail
    refine HV.out.mono ?_
    rintro e w1 ⟨rfl, hB⟩
    have HB := Lib.hid hB
    clear hB
    go_wp2_with fail
    go_loopw [7, 18] (fun s7 s18 wr => ∃ k : Nat, k ≤ xs.length ∧ s18 = .int .i64 k ∧ wr.ownsRow w.heap.size 65 5 s7 k (ec (invL ps (xs.take k))) ∧ Below w.heap.size w wr) (fun _ s18 _ => xs.length - (intOf s18).toNat)
    case atStart => exact ⟨0, Nat.zero_le _, rfl, World.ownsRow_nil _ _ _ _, HB.out⟩
    case round =>
      clear HB
      obtain ⟨k, hk, rfl, hO, hB⟩ := hrel
      by_cases hlt : k < xs.length
      · obtain ⟨b, off, e, rfl, hlb, he, c0, c1, c2, c3, c4⟩ := (hx.below hB (Nat.le_refl _)).at_ hlt
        obtain ⟨a0, a1⟩ := H1.out e (mem_of_get he)
        obtain ⟨b2, off2, l, rfl, hlb2, hl, d0, d1, d2, d3⟩ := (hp.below hB (Nat.le_refl _)).at_ a1
        have a2 : e.at_ < (ps.length : Int) := by omega
        have HS := Lib.hid (inv_take he hl)
        obtain ⟨va, vc, rfl⟩ := own_slice hO
        have hal : Below wr.heap.size wr ((wr.alloc (.cells (eV e) 65)).alloc (.cells (eV ⟨e.at_, l⟩) 65)).drew := (((Below.refl wr.heap.size wr).alloc (Nat.le_refl _) _).alloc (by simp) _).drew
        have hB2 := hB.trans (hal.mono hB.size)
        have hO2 := own_below hO hal (Nat.le_refl _)
        have hcl : ∀ j u, (ec [⟨e.at_, l⟩])[j]? = some u → ((wr.alloc (.cells (eV e) 65)).alloc (.cells (eV ⟨e.at_, l⟩) 65)).drew.cell? ((⟨wr.heap.size + 1, 0, none⟩ : Addr).add j) = some u := by
          intro j u hu
          have h := cells_newE (wr.alloc (.cells (eV e) 65)) ⟨e.at_, l⟩ j u hu
          rw [show (wr.alloc (.cells (eV e) 65)).heap.size = wr.heap.size + 1 by simp] at h
          exact h
        have HBB := Lib.hid hB2
        have HOO := Lib.hid hO2
        have HCL := Lib.hid hcl
        unfold eV at HBB HOO HCL
        clear he hl hO hB hx hp hal hB2 hO2 hcl
        go_wp2_with fail
        go_region_law (refine step_append_own rfl (.tmp 22) (.tmp 31) 23 rfl w.heap.size 65 i0 (.agg #[.int .i64 0, .int .i64 0, .int .i64 0, .int .i64 0, .int .i64 0]) 5 40 Tryz.underlying23 hi hz0 hz1 hz2 rfl (by decide) (.slice va k vc) k _ (by rfl) HOO.out ⟨wr.heap.size + 1, 0, none⟩ 1 1 (ec [⟨e.at_, l⟩]) (by rfl) (ec_length _) HCL.out (ec_one _) (by unfold maxLen; omega) (by omega) HBB.out.size ?_; intro v3 w3 hown3 hgrow3; have HB3 := Lib.hid (HBB.out.grown hgrow3 HBB.out.size (fun q hq => (HOO.out.lt q hq).1)); have HO3 := Lib.hid (show w3.ownsRow w.heap.size 65 5 v3 (k + 1) (ec (invL ps (xs.take (k + 1)))) by rw [HS.out, ec_append]; exact hown3); clear hown3 hgrow3)
        all_goals go_wp2_with fail
        all_goals go_roundw
        all_goals first | exact ⟨k + 1, by omega, by go_num, HO3.out, HB3.out⟩ | (simp [intOf]; omega)
      · obtain rfl : k = xs.length := by omega
        rw [List.take_length] at hO
        have HO := Lib.hid hO
        have HB := Lib.hid hB
        clear hO hB
        go_wp2_with fail
        go_ret2
        obtain ⟨v1, v2, rfl⟩ := own_slice HO.out
        exact ⟨v1, v2, by rw [inv_len]; rfl, by rw [inv_len]; exact HO.out, HB.out⟩
  · have HE := Lib.hid (show inR ps xs = [] by unfold inR; rw [if_neg hz])
    rw [HE.out]
    generalize vpx ps xs 0 = c at HV hz ⊢
    have hz1 : (c != 0) = true := by simpa using hz
    have hz2 : (c == 0) = false := by simpa using hz
    clear hz HE
    go_enter Tryz.func31, Tryz.ntmps31
    go_wp2_with fail
    refine HV.out.mono ?_
    rintro e w1 ⟨rfl, hB⟩
    have HB := Lib.hid hB
    clear hB
    go_wp2_with fail
    go_ret2
    exact givesEditsE_nil HB.out

theorem ne_facts {l m : L} (h : eqL l m = false) : (l.op == m.op) = false ∨ ((l.op == m.op) = true ∧ (l.to == m.to) = false) ∨ ((l.op == m.op) = true ∧ (l.to == m.to) = true ∧ (l.a == m.a) = false) ∨ ((l.op == m.op) = true ∧ (l.to == m.to) = true ∧ (l.a == m.a) = true ∧ (l.b == m.b) = false) := by
  unfold eqL at h
  cases h1 : (l.op == m.op)
  · exact .inl rfl
  · cases h2 : (l.to == m.to)
    · exact .inr (.inl ⟨rfl, rfl⟩)
    · cases h3 : (l.a == m.a)
      · exact .inr (.inr (.inl ⟨rfl, rfl, rfl⟩))
      · cases h4 : (l.b == m.b)
        · exact .inr (.inr (.inr ⟨rfl, rfl, rfl, rfl⟩))
        · rw [h1, h2, h3, h4] at h; cases h

set_option maxRecDepth 100000 in
set_option maxHeartbeats 2000000 in
theorem pdiff_any (a g : Option Addr) (ca cg : Nat) (ps qs : List L) (w : World) (hp : LinesAt w a ps) (hq : LinesAt w g qs) (hl : ps.length = qs.length) (hm : qs.length ≤ 8) :
    Calls Tryz.prog 82 #[.slice a ps.length ca, .slice g qs.length cg] w (GivesEdits (dfL ps qs) w) := by
  obtain ⟨i0, hi, hz0, hz1, hz2⟩ := info_parts info_edit
  have HL := Lib.hid hl
  clear hl
  go_enter Tryz.func82, Tryz.ntmps82
  go_wp2_with fail
  go_loopw [5, 10] (fun s5 s10 wr => ∃ k : Nat, k ≤ qs.length ∧ s10 = .int .i64 k ∧ wr.ownsRow w.heap.size 65 5 s5 (dfTo ps qs k).length (ec (dfTo ps qs k)) ∧ Below w.heap.size w wr) (fun _ s10 _ => qs.length - (intOf s10).toNat)
  case atStart => exact ⟨0, Nat.zero_le _, rfl, World.ownsRow_nil _ _ _ _, Below.refl _ _⟩
  case round =>
    obtain ⟨k, hk, rfl, hO, hB⟩ := hrel
    have hdl := dfTo_len ps qs k
    by_cases hlt : k < qs.length
    · obtain ⟨b, off, l, rfl, hlb, hl1, c0, c1, c2, c3⟩ := (hq.below hB (Nat.le_refl _)).at_ hlt
      have hkp : k < ps.length := by rw [HL.out]; exact hlt
      obtain ⟨b2, off2, m, rfl, hlb2, hm1, d0, d1, d2, d3⟩ := (hp.below hB (Nat.le_refl _)).at_ hkp
      obtain ⟨va, vc, rfl⟩ := own_slice hO
      have HO := Lib.hid hO
      have HB := Lib.hid hB
      have hal : Below wr.heap.size wr (wr.alloc (.cells #[.int .i64 l.op, .int .i64 l.to, .int .i64 l.a, .int .i64 l.b] 63)) := (Below.refl _ _).alloc (Nat.le_refl _) _
      have HBA := Lib.hid (hB.trans (hal.mono hB.size))
      have HOA := Lib.hid (own_below hO hal (Nat.le_refl _))
      cases he : eqL l m
      · have HS := Lib.hid (dfTo_yes hm1 hl1 he)
        have HNE := Lib.hid (ne_facts he)
        clear hl1 hm1 hO hB hp hq HO HB hal he
        go_upto_region 5 with fail
        go_cut [20] (fun s20 wx => s20 = .bool true ∧ Below w.heap.size w wx ∧ wx.ownsRow w.heap.size 65 5 (.slice va (dfTo ps qs k).length vc) (dfTo ps qs k).length (ec (dfTo ps qs k)) ∧ wx.heap[wr.heap.size]? = some (.cells #[.int .i64 l.op, .int .i64 l.to, .int .i64 l.a, .int .i64 l.b] 63 (0, 0)))
        case first =>
          rcases HNE.out with h1 | ⟨h1, h2⟩ | ⟨h1, h2, h3⟩ | ⟨h1, h2, h3, h4⟩
          all_goals go_quiet (fail)
          all_goals go_wp2_with fail
          all_goals go_meet
          all_goals exact ⟨rfl, HBA.out.trans ⟨rfl, rfl, rfl, Nat.le_refl _, fun _ _ => rfl⟩, own_below HOA.out ⟨rfl, rfl, rfl, Nat.le_refl _, fun _ _ => rfl⟩ (Nat.le_refl _), hp_new rfl⟩
        case rest =>
          clear HBA HOA
          obtain ⟨rfl, hB2, hO2, hbx⟩ := hcut
          generalize wr.heap.size = X at hbx
          have x0 := hp_cell hbx (j := 0) (by rfl)
          have x1 := hp_cell hbx (j := 1) (by rfl)
          have x2 := hp_cell hbx (j := 2) (by rfl)
          have x3 := hp_cell hbx (j := 3) (by rfl)
          have HB2 := Lib.hid hB2
          have HO2 := Lib.hid hO2
          clear hB2 hO2 hbx
          go_wp2_with (at_builtin; (refine wpList_append_own _ rfl (.tmp 21) (.tmp 25) 23 rfl w.heap.size 65 i0 (.agg #[.int .i64 0, .int .i64 0, .int .i64 0, .int .i64 0, .int .i64 0]) 5 40 Tryz.underlying23 hi hz0 hz1 hz2 rfl (by decide) _ (dfTo ps qs k).length (ec (dfTo ps qs k)) rfl (own_below HO2.out ((Below.refl _ _).alloc (Nat.le_refl _) _) (Nat.le_refl _)) _ 1 1 (ec [⟨(k : Int), l⟩]) rfl rfl ?c2 (ec_one _) ?c4 ?c5 ?c6 ?_))
          case c2 => exact cells_newE _ ⟨(k : Int), l⟩
          case c4 => unfold maxLen; omega
          case c5 => omega
          case c6 => have := HB2.out.size; simp at this ⊢; omega
          intro v3 w3 hown3 hgrow3 _
          have HB3 := Lib.hid ((HB2.out.alloc HB2.out.size (.cells #[.int .i64 (k : Int), .int .i64 l.op, .int .i64 l.to, .int .i64 l.a, .int .i64 l.b] 65)).grown hgrow3 (by have := HB2.out.size; simp at this ⊢; omega) (fun q hq => (HO2.out.lt q hq).1))
          have HO3 := Lib.hid (show w3.ownsRow w.heap.size 65 5 v3 (dfTo ps qs (k + 1)).length (ec (dfTo ps qs (k + 1))) by rw [HS.out, ec_append, List.length_append, List.length_singleton]; exact hown3)
          clear hown3 hgrow3 x0 x1 x2 x3
          go_wp2_with fail
          go_roundw
          case rel => exact ⟨k + 1, by omega, by go_num, HO3.out, HB3.out⟩
          case measure => simp [intOf]; omega
      · have HS := Lib.hid (dfTo_no hm1 hl1 he)
        obtain rfl := eqL_iff.1 he
        clear hl1 hm1 hO hB hp hq he hal
        go_wp2_with fail
        go_quiet (fail)
        go_wp2_with fail
        go_roundw
        case rel => exact ⟨k + 1, by omega, by go_num, by rw [HS.out]; exact own_below HOA.out ⟨rfl, rfl, rfl, Nat.le_refl _, fun _ _ => rfl⟩ (Nat.le_refl _), HBA.out.trans ⟨rfl, rfl, rfl, Nat.le_refl _, fun _ _ => rfl⟩⟩
        case measure => simp [intOf]; omega
    · obtain rfl : k = qs.length := by omega
      have HO := Lib.hid hO
      have HB := Lib.hid hB
      clear hO hB
      go_wp2_with fail
      go_ret
      exact givesEdits_of rfl HO.out HB.out

end Go.Proofs.YtdcoebeffbkpnaaGreat

/- What changes a program: contracts of Diff, Clean, distance, Size. -/
set_option linter.unusedVariables false
set_option linter.unusedSimpArgs false
namespace Go.Proofs.YtdcoebeffbkpnaaGreat
open Go.RowKit Tinker

def dsTo (p0 p1 p2 p3 : Bool) (k : Nat) : Int := if k = 0 then 0 else if k = 1 then b1 p0 else if k = 2 then b1 p0 + b1 p1 else if k = 3 then b1 p0 + b1 p1 + b1 p2 else b1 p0 + b1 p1 + b1 p2 + b1 p3
theorem dsTo_le (p0 p1 p2 p3 : Bool) (k : Nat) : 0 ≤ dsTo p0 p1 p2 p3 k ∧ dsTo p0 p1 p2 p3 k ≤ 4 := by
  have := b1_le p0; have := b1_le p1; have := b1_le p2; have := b1_le p3
  unfold dsTo
  split
  · omega
  · split
    · omega
    · split
      · omega
      · split <;> omega
theorem ds_1 (p0 p1 p2 p3 : Bool) : dsTo p0 p1 p2 p3 1 = dsTo p0 p1 p2 p3 0 + b1 p0 := by simp [dsTo]
theorem ds_2 (p0 p1 p2 p3 : Bool) : dsTo p0 p1 p2 p3 2 = dsTo p0 p1 p2 p3 1 + b1 p1 := by simp [dsTo]
theorem ds_3 (p0 p1 p2 p3 : Bool) : dsTo p0 p1 p2 p3 3 = dsTo p0 p1 p2 p3 2 + b1 p2 := by simp [dsTo]
theorem ds_4 (p0 p1 p2 p3 : Bool) : dsTo p0 p1 p2 p3 4 = dsTo p0 p1 p2 p3 3 + b1 p3 := by simp [dsTo]

theorem ix0 (p0 p1 p2 p3 : Bool) (w : World) : (Instr.index 170 (.agg #[.bool p0, .bool p1, .bool p2, .bool p3]) (.int .i64 0)).run Tryz.prog w = .ok (.bool p0) w := by kernel_rfl
theorem iy0 (p0 p1 p2 p3 : Bool) (w : World) : (Instr.index 170 (.agg #[.bool p0, .bool p1, .bool p2, .bool p3]) (.int .i64 ((0 : Nat) : Int))).run Tryz.prog w = .ok (.bool p0) w := by kernel_rfl
theorem ix1 (p0 p1 p2 p3 : Bool) (w : World) : (Instr.index 170 (.agg #[.bool p0, .bool p1, .bool p2, .bool p3]) (.int .i64 1)).run Tryz.prog w = .ok (.bool p1) w := by kernel_rfl
theorem iy1 (p0 p1 p2 p3 : Bool) (w : World) : (Instr.index 170 (.agg #[.bool p0, .bool p1, .bool p2, .bool p3]) (.int .i64 ((1 : Nat) : Int))).run Tryz.prog w = .ok (.bool p1) w := by kernel_rfl
theorem ix2 (p0 p1 p2 p3 : Bool) (w : World) : (Instr.index 170 (.agg #[.bool p0, .bool p1, .bool p2, .bool p3]) (.int .i64 2)).run Tryz.prog w = .ok (.bool p2) w := by kernel_rfl
theorem iy2 (p0 p1 p2 p3 : Bool) (w : World) : (Instr.index 170 (.agg #[.bool p0, .bool p1, .bool p2, .bool p3]) (.int .i64 ((2 : Nat) : Int))).run Tryz.prog w = .ok (.bool p2) w := by kernel_rfl
theorem ix3 (p0 p1 p2 p3 : Bool) (w : World) : (Instr.index 170 (.agg #[.bool p0, .bool p1, .bool p2, .bool p3]) (.int .i64 3)).run Tryz.prog w = .ok (.bool p3) w := by kernel_rfl
theorem iy3 (p0 p1 p2 p3 : Bool) (w : World) : (Instr.index 170 (.agg #[.bool p0, .bool p1, .bool p2, .bool p3]) (.int .i64 ((3 : Nat) : Int))).run Tryz.prog w = .ok (.bool p3) w := by kernel_rfl

set_option maxRecDepth 100000 in
set_option maxHeartbeats 2000000 in
theorem distance_any (l m : L) (w : World) : Calls Tryz.prog 80 #[lv l, lv m] w fun e w' => e = .returned (.int .i64 (dsN l m)) ∧ Below w.heap.size w w' := by
  have HB := Lib.hid (show Below w.heap.size w ((w.alloc (.cells #[.int .i64 l.op, .int .i64 l.to, .int .i64 l.a, .int .i64 l.b] 63)).alloc (.cells #[.int .i64 m.op, .int .i64 m.to, .int .i64 m.a, .int .i64 m.b] 63)) from ((Below.refl _ _).alloc (Nat.le_refl _) _).alloc (by simp) _)
  have HD := Lib.hid (show dsTo (l.op != m.op) (l.to != m.to) (l.a != m.a) (l.b != m.b) 4 = dsN l m from rfl)
  unfold lv
  go_enter Tryz.func80, Tryz.ntmps80
  go_wp2_with fail
  generalize ((w.alloc (.cells #[.int .i64 l.op, .int .i64 l.to, .int .i64 l.a, .int .i64 l.b] 63)).alloc (.cells #[.int .i64 m.op, .int .i64 m.to, .int .i64 m.a, .int .i64 m.b] 63)) = w1 at HB ⊢
  generalize (l.op != m.op) = p0 at HD ⊢
  generalize (l.to != m.to) = p1 at HD ⊢
  generalize (l.a != m.a) = p2 at HD ⊢
  generalize (l.b != m.b) = p3 at HD ⊢
  go_loopw [5, 29] (fun s5 s29 wr => ∃ k : Nat, k ≤ 4 ∧ s5 = .int .i64 (dsTo p0 p1 p2 p3 k) ∧ s29 = .int .i64 k ∧ Below w.heap.size w wr) (fun _ s29 _ => 4 - (intOf s29).toNat)
  case atStart => exact ⟨0, Nat.zero_le _, rfl, rfl, HB.out⟩
  case round =>
    clear HB
    obtain ⟨k, hk, rfl, rfl, hB⟩ := hrel
    have HB := Lib.hid hB
    clear hB
    by_cases hlt : k < 4
    · obtain ⟨n0, n4⟩ := dsTo_le p0 p1 p2 p3 k
      have hkk : k = 0 ∨ k = 1 ∨ k = 2 ∨ k = 3 := by omega
      rcases hkk with rfl | rfl | rfl | rfl
      · have HS := Lib.hid (ds_1 p0 p1 p2 p3)
        have hi := ix0 p0 p1 p2 p3
        have hj := iy0 p0 p1 p2 p3
        generalize dsTo p0 p1 p2 p3 0 = n at HS n0 n4 ⊢
        cases p0
        · go_wp2_with fail
          go_roundw
          case rel => exact ⟨1, by omega, by rw [HS.out]; simp [b1], rfl, HB.out⟩
          case measure => simp [intOf]
        · go_wp2_with fail
          go_roundw
          case rel => exact ⟨1, by omega, by rw [HS.out]; unfold b1; go_num, rfl, HB.out⟩
          case measure => simp [intOf]
      · have HS := Lib.hid (ds_2 p0 p1 p2 p3)
        have hi := ix1 p0 p1 p2 p3
        have hj := iy1 p0 p1 p2 p3
        generalize dsTo p0 p1 p2 p3 1 = n at HS n0 n4 ⊢
        cases p1
        · go_wp2_with fail
          go_roundw
          case rel => exact ⟨2, by omega, by rw [HS.out]; simp [b1], rfl, HB.out⟩
          case measure => simp [intOf]
        · go_wp2_with fail
          go_roundw
          case rel => exact ⟨2, by omega, by rw [HS.out]; unfold b1; go_num, rfl, HB.out⟩
          case measure => simp [intOf]
      · have HS := Lib.hid (ds_3 p0 p1 p2 p3)
        have hi := ix2 p0 p1 p2 p3
        have hj := iy2 p0 p1 p2 p3
        generalize dsTo p0 p1 p2 p3 2 = n at HS n0 n4 ⊢
        cases p2
        · go_wp2_with fail
          go_roundw
          case rel => exact ⟨3, by omega, by rw [HS.out]; simp [b1], rfl, HB.out⟩
          case measure => simp [intOf]
        · go_wp2_with fail
          go_roundw
          case rel => exact ⟨3, by omega, by rw [HS.out]; unfold b1; go_num, rfl, HB.out⟩
          case measure => simp [intOf]
      · have HS := Lib.hid (ds_4 p0 p1 p2 p3)
        have hi := ix3 p0 p1 p2 p3
        have hj := iy3 p0 p1 p2 p3
        generalize dsTo p0 p1 p2 p3 3 = n at HS n0 n4 ⊢
        cases p3
        · go_wp2_with fail
          go_roundw
          case rel => exact ⟨4, by omega, by rw [HS.out]; simp [b1], rfl, HB.out⟩
          case measure => simp [intOf]
        · go_wp2_with fail
          go_roundw
          case rel => exact ⟨4, by omega, by rw [HS.out]; unfold b1; go_num, rfl, HB.out⟩
          case measure => simp [intOf]
    · obtain rfl : k = 4 := by omega
      go_wp2_with fail
      go_ret
      exact ⟨ret_int HD.out, HB.out⟩

theorem sz_take {ps : List L} {xs : List E} {k : Nat} {e : E} {l : L} (he : xs[k]? = some e) (hl : ps[e.at_.toNat]? = some l) : szL ps (xs.take (k + 1)) = szL ps (xs.take k) + dsN e.ln l := by
  rw [List.take_add_one, he]
  show szL ps (xs.take k ++ [e]) = _
  rw [szL_snoc, lnD_at hl]

set_option maxRecDepth 100000 in
set_option maxHeartbeats 2000000 in
theorem pSize_any (a g : Option Addr) (ca cg : Nat) (ps : List L) (xs : List E) (w : World) (hp : LinesAt w a ps) (hx : EditsAt w g xs) (hm : xs.length ≤ 1000) (hpl : ps.length ≤ 1000) :
    Calls Tryz.prog 29 #[.slice a ps.length ca, .slice g xs.length cg] w fun e w' => e = .returned (.tuple #[.int .i64 (szR ps xs), .int .i64 (vpx ps xs 0)]) ∧ Below w.heap.size w w' := by
  have HV := Lib.hid (pvalidate0_any a g ca cg ps xs w hp hx hm hpl)
  by_cases hz : vpx ps xs 0 = 0
  · obtain ⟨h1, h2, h3⟩ := okX_at hz
    have H1 := Lib.hid h1
    have HE := Lib.hid (show szR ps xs = szL ps xs by unfold szR; rw [if_pos hz])
    rw [HE.out, hz]
    rw [hz] at HV
    clear hz h1 HE
    go_enter Tryz.func29, Tryz.ntmps29
    go_wp2_with fail
    refine HV.out.mono ?_
    rintro e w1 ⟨rfl, hB⟩
    have HB := Lib.hid hB
    clear hB
    go_wp2_with fail
    go_loopw [7, 18] (fun s7 s18 wr => ∃ k : Nat, k ≤ xs.length ∧ s18 = .int .i64 k ∧ s7 = .int .i64 (szL ps (xs.take k)) ∧ Below w.heap.size w wr) (fun _ s18 _ => xs.length - (intOf s18).toNat)
    case atStart => exact ⟨0, Nat.zero_le _, rfl, rfl, HB.out⟩
    case round =>
      clear HB
      obtain ⟨k, hk, rfl, rfl, hB⟩ := hrel
      by_cases hlt : k < xs.length
      · obtain ⟨b, off, e, rfl, hlb, he, c0, c1, c2, c3, c4⟩ := (hx.below hB (Nat.le_refl _)).at_ hlt
        obtain ⟨a0, a1⟩ := H1.out e (mem_of_get he)
        obtain ⟨b2, off2, l, rfl, hlb2, hl, d0, d1, d2, d3⟩ := (hp.below hB (Nat.le_refl _)).at_ a1
        have a2 : e.at_ < (ps.length : Int) := by omega
        have HS := Lib.hid (sz_take he hl)
        obtain ⟨n0, n4⟩ := szL_le ps (xs.take k)
        have n5 : szL ps (xs.take k) ≤ 16 := by rw [List.length_take] at n4; omega
        obtain ⟨m0, m4⟩ := dsN_le e.ln l
        have HD := Lib.hid (fun w => distance_any e.ln l w)
        have HBA := Lib.hid (hB.alloc hB.size (.cells #[.int .i64 e.at_, .int .i64 e.ln.op, .int .i64 e.ln.to, .int .i64 e.ln.a, .int .i64 e.ln.b] 65))
        unfold lv at HD
        clear he hl hB hx hp n4
        generalize szL ps (xs.take k) = n at HS n0 n5 ⊢
        generalize dsN e.ln l = d at HS HD m0 m4
        go_wp2_with fail
        go_region_with (go_at_call 80; refine (HD.out _).mono ?_; rintro ex w3 ⟨rfl, hB3⟩; have HB3 := Lib.hid (HBA.out.drew.trans (hB3.mono HBA.out.size)); clear hB3)
        all_goals go_wp2_with fail
        all_goals go_roundw
        all_goals first | exact ⟨k + 1, by omega, by go_num, (by rw [HS.out]; try go_num), HB3.out⟩ | (simp [intOf]; omega)
      · obtain rfl : k = xs.length := by omega
        have HQ := Lib.hid (show szL ps (xs.take xs.length) = szL ps xs by rw [List.take_length])
        have HB := Lib.hid hB
        clear hB
        generalize szL ps (xs.take xs.length) = n at HQ ⊢
        go_wp2_with fail
        go_ret2
        exact ⟨by rw [← HQ.out]; rfl, HB.out⟩
  · have HE := Lib.hid (show szR ps xs = 0 by unfold szR; rw [if_neg hz])
    rw [HE.out]
    generalize vpx ps xs 0 = c at HV hz ⊢
    have hz1 : (c != 0) = true := by simpa using hz
    have hz2 : (c == 0) = false := by simpa using hz
    clear hz HE
    go_enter Tryz.func29, Tryz.ntmps29
    go_wp2_with fail
    refine HV.out.mono ?_
    rintro e w1 ⟨rfl, hB⟩
    have HB := Lib.hid hB
    clear hB
    go_wp2_with fail
    go_ret2
    exact ⟨rfl, HB.out⟩

/-- What Clean answers, as the code finds it. -/
def clQ (ps : List L) (xs : List E) : List E := if vpx ps xs 0 = 0 then dfL ps (doL ps xs) else []

set_option maxRecDepth 100000 in
set_option maxHeartbeats 1000000 in
theorem pClean_any (a g : Option Addr) (ca cg : Nat) (ps : List L) (xs : List E) (w : World) (hp : LinesAt w a ps) (hx : EditsAt w g xs) (hm : xs.length ≤ 1000) (hpl : ps.length ≤ 1000) :
    Calls Tryz.prog 32 #[.slice a ps.length ca, .slice g xs.length cg] w (GivesEditsE (clQ ps xs) (vpx ps xs 0) w) := by
  have HV := Lib.hid (pvalidate0_any a g ca cg ps xs w hp hx hm hpl)
  by_cases hz : vpx ps xs 0 = 0
  · obtain ⟨h1, h2, h3⟩ := okX_at hz
    have HD := Lib.hid (fun w h h' => pdo_any a g ca cg ps xs w h h' h2 h3 h1)
    have HF := Lib.hid (fun b c w h h' => by have := pdiff_any a b ca c ps (doL ps xs) w h h' (by rw [doL_len]) (by rw [doL_len]; exact h2); rw [doL_len] at this; exact this)
    have HE := Lib.hid (show clQ ps xs = dfL ps (doL ps xs) by unfold clQ; rw [if_pos hz])
    have HL := Lib.hid (doL_len xs ps)
    rw [HE.out, hz]
    rw [hz] at HV
    generalize dfL ps (doL ps xs) = R at HF ⊢
    generalize doL ps xs = qs at HD HF HL
    clear hz h1 h2 h3 HE
    go_enter Tryz.func32, Tryz.ntmps32
    go_wp2_with fail
    refine HV.out.mono ?_
    rintro e w1 ⟨rfl, hB⟩
    have HB := Lib.hid hB
    clear hB
    go_wp2_with fail
    refine (HD.out _ (hp.below HB.out (Nat.le_refl _)) (hx.below HB.out (Nat.le_refl _))).mono ?_
    rintro e w2 ⟨a2, c2, rfl, ho, hB2⟩
    have HO := Lib.hid (lines_of_own ho).1
    have HB2 := Lib.hid (HB.out.trans (hB2.mono HB.out.size))
    clear ho hB2
    rw [HL.out]
    go_wp2_with fail
    refine (HF.out _ _ _ (hp.below HB2.out (Nat.le_refl _)) HO.out).mono ?_
    intro e w3 hG
    obtain ⟨a3, c3, rfl, ho3, hB3⟩ := hG.wide HB2.out
    have HO3 := Lib.hid ho3
    have HB3 := Lib.hid hB3
    clear hG ho3 hB3
    go_wp2_with fail
    go_ret2
    exact ⟨a3, c3, rfl, HO3.out, HB3.out⟩
  · have HE := Lib.hid (show clQ ps xs = [] by unfold clQ; rw [if_neg hz])
    rw [HE.out]
    generalize vpx ps xs 0 = c at HV hz ⊢
    have hz1 : (c != 0) = true := by simpa using hz
    have hz2 : (c == 0) = false := by simpa using hz
    clear hz HE
    go_enter Tryz.func32, Tryz.ntmps32
    go_wp2_with fail
    refine HV.out.mono ?_
    rintro e w1 ⟨rfl, hB⟩
    have HB := Lib.hid hB
    clear hB
    go_wp2_with fail
    go_ret2
    exact givesEditsE_nil HB.out

end Go.Proofs.YtdcoebeffbkpnaaGreat
