/- Several texts in one. -/
import Derived.Test.YtfclfmloceddfaaGreatSgC
/- Plain mathematics: pairs of edits with templates; the smallest good pair. -/
set_option linter.unusedVariables false
set_option linter.unusedSimpArgs false
namespace Go.Proofs.YtfclfmloceddfaaGreat
open Go.RowKit Go.Shelf Tinker

/-- The pairs with a first edit, out of a list; those of the first edits of a list; all. -/
def prX (x : E) (ys : List E) : List (E × E) := (ys.filter fun y => decide (x.at_ < y.at_)).map fun y => (x, y)
def prK (xs : List E) (k : Nat) : List (E × E) := (List.range k).flatMap fun i => match xs[i]? with | some x => prX x (xs.drop (i + 1)) | none => []
def prL (xs : List E) : List (E × E) := prK xs xs.length
theorem prK_succ {xs : List E} {k : Nat} {x : E} (h : xs[k]? = some x) : prK xs (k + 1) = prK xs k ++ prX x (xs.drop (k + 1)) := by
  unfold prK
  rw [List.range_succ, List.flatMap_append]
  simp [h]
theorem prX_hit {x y : E} {ys : List E} {j : Nat} (h : ys[j]? = some y) (hl : x.at_ < y.at_) : prX x (ys.take (j + 1)) = prX x (ys.take j) ++ [(x, y)] := by
  unfold prX
  rw [take_snoc h, List.filter_append, List.map_append]
  simp [hl]
theorem prX_miss {x y : E} {ys : List E} {j : Nat} (h : ys[j]? = some y) (hl : ¬ x.at_ < y.at_) : prX x (ys.take (j + 1)) = prX x (ys.take j) := by
  unfold prX
  rw [take_snoc h, List.filter_append, List.map_append]
  simp [hl]
theorem prX_len (x : E) (ys : List E) : (prX x ys).length ≤ ys.length := by
  unfold prX
  rw [List.length_map]
  exact List.length_filter_le _ _
theorem prK_len (xs : List E) : ∀ k, (prK xs k).length ≤ xs.length * k
  | 0 => by simp [prK]
  | k + 1 => by
    have ih := prK_len xs k
    cases h : xs[k]? with
    | none =>
      have : prK xs (k + 1) = prK xs k := by
        unfold prK
        rw [List.range_succ, List.flatMap_append]
        simp [h]
      rw [this]
      exact Nat.le_trans ih (Nat.mul_le_mul_left _ (Nat.le_succ _))
    | some x =>
      rw [prK_succ h, List.length_append]
      have h1 := prX_len x (xs.drop (k + 1))
      rw [List.length_drop] at h1
      rw [Nat.mul_succ]
      omega
theorem prX_mem {x : E} {ys : List E} {z : E × E} : z ∈ prX x ys ↔ z.1 = x ∧ z.2 ∈ ys ∧ x.at_ < z.2.at_ := by
  unfold prX
  rw [List.mem_map]
  constructor
  · rintro ⟨y, hy, rfl⟩
    rw [List.mem_filter, decide_eq_true_eq] at hy
    exact ⟨rfl, hy.1, hy.2⟩
  · rintro ⟨h1, h2, h3⟩
    exact ⟨z.2, by rw [List.mem_filter, decide_eq_true_eq]; exact ⟨h2, h3⟩, by rw [← h1]⟩
theorem prL_mem {xs : List E} {z : E × E} (h : z ∈ prL xs) : z.1 ∈ xs ∧ z.2 ∈ xs ∧ z.1.at_ < z.2.at_ := by
  unfold prL prK at h
  rw [List.mem_flatMap] at h
  obtain ⟨i, _, h⟩ := h
  cases hx : xs[i]? with
  | none => rw [hx] at h; cases h
  | some x =>
    rw [hx] at h
    obtain ⟨h1, h2, h3⟩ := prX_mem.1 h
    exact ⟨h1 ▸ mem_of_get hx, List.mem_of_mem_drop h2, h1 ▸ h3⟩
/-- The two edits as a list. -/
def pE (z : E × E) : List E := [z.1, z.2]
theorem pE_ok {ps : List L} {z : E × E} (hv : vp ps = 0) (h : z ∈ prL (edL ps 0)) : vpx ps (pE z) 0 = 0 := by
  obtain ⟨h1, h2, h3⟩ := prL_mem h
  obtain ⟨i, m, hi, hm, e1⟩ := edK_mem.1 h1
  obtain ⟨j, n, hj, hn, e2⟩ := edK_mem.1 h2
  obtain ⟨z1, z2⟩ := z
  dsimp only at e1 e2 h3
  subst e1 e2
  dsimp only at h3
  have h8 := (vp_ok hv).1
  have hx : vx (pE (⟨(i : Int), m⟩, ⟨(j : Int), n⟩)) = 0 := vx_0 (by simp [pE]) (by
    show isSetB [(i : Int), (j : Int)] = true
    rw [isSetB_iff]
    intro k hk
    have : k = 0 := by simp at hk; omega
    subst this
    exact h3) (fun e he => by
    have he' : e = ⟨(i : Int), m⟩ ∨ e = ⟨(j : Int), n⟩ := by simpa [pE] using he
    rw [Bool.and_eq_true]
    rcases he' with rfl | rfl
    · exact ⟨btw_true.2 ⟨by show (0 : Int) ≤ (i : Int); omega, by show (i : Int) ≤ 7; omega⟩, cnd_ln hm⟩
    · exact ⟨btw_true.2 ⟨by show (0 : Int) ≤ (j : Int); omega, by show (j : Int) ≤ 7; omega⟩, cnd_ln hn⟩)
  unfold vpx
  rw [hv, hx]
  show (if allBtw [(i : Int), (j : Int)] 0 ((ps.length : Int) - 1) then (0 : Int) else 4) = 0
  rw [if_pos]
  unfold allBtw
  rw [List.all_eq_true]
  intro x hx
  have hx' : x = (i : Int) ∨ x = (j : Int) := by simpa using hx
  rcases hx' with rfl | rfl
  · exact btw_true.2 ⟨by omega, by omega⟩
  · exact btw_true.2 ⟨by omega, by omega⟩
/-- How many fields a pair changes; the smallest good pair so far. -/
def szP (ps : List L) (z : E × E) : Int := szE ps z.1 + szE ps z.2
theorem szP_le (ps : List L) (z : E × E) : 0 ≤ szP ps z ∧ szP ps z ≤ 8 := by
  have h1 := dsN_le z.1.ln (lnD ps z.1.at_.toNat)
  have h2 := dsN_le z.2.ln (lnD ps z.2.at_.toNat)
  unfold szP szE
  omega
theorem szR_two {ps : List L} {z : E × E} (h : vpx ps (pE z) 0 = 0) : szR ps (pE z) = szP ps z := by
  unfold szR
  rw [if_pos h]
  unfold pE szP
  rw [szL_cons, szL_cons]
  show szE ps z.1 + (szE ps z.2 + szL ps []) = _
  simp [szL]
def dmT (ps : List L) (ts : List T) (o : Option ((E × E) × Int)) (z : E × E) : Option ((E × E) × Int) :=
  match o with
  | none => if gdB ps ts (pE z) = true then some (z, szP ps z) else none
  | some y => if y.2 ≤ szP ps z then some y else if gdB ps ts (pE z) = true then some (z, szP ps z) else some y
def dmX (ps : List L) (ts : List T) (zs : List (E × E)) : Option ((E × E) × Int) := zs.foldl (dmT ps ts) none
theorem dmX_nil (ps : List L) (ts : List T) : dmX ps ts [] = none := rfl
theorem dmX_snoc (ps : List L) (ts : List T) (zs : List (E × E)) (z : E × E) : dmX ps ts (zs ++ [z]) = dmT ps ts (dmX ps ts zs) z := by unfold dmX; rw [List.foldl_append]; rfl
theorem dmX_take {ps : List L} {ts : List T} {zs : List (E × E)} {k : Nat} {z : E × E} (h : zs[k]? = some z) : dmX ps ts (zs.take (k + 1)) = dmT ps ts (dmX ps ts (zs.take k)) z := by rw [take_snoc h, dmX_snoc]
theorem dmT_none {ps : List L} {ts : List T} {z : E × E} : dmT ps ts none z = if gdB ps ts (pE z) = true then some (z, szP ps z) else none := rfl
theorem dmT_skip {ps : List L} {ts : List T} {z y : E × E} {s : Int} (h : s ≤ szP ps z) : dmT ps ts (some (y, s)) z = some (y, s) := by unfold dmT; exact if_pos h
theorem dmT_less {ps : List L} {ts : List T} {z y : E × E} {s : Int} (h : ¬ s ≤ szP ps z) : dmT ps ts (some (y, s)) z = if gdB ps ts (pE z) = true then some (z, szP ps z) else some (y, s) := by unfold dmT; exact if_neg h
theorem dmX_inv (ps : List L) (ts : List T) (zs : List (E × E)) : ∀ k, k ≤ zs.length → ∀ y s, dmX ps ts (zs.take k) = some (y, s) → y ∈ zs ∧ gdB ps ts (pE y) = true ∧ s = szP ps y := by
  intro k
  induction k with
  | zero => intro _ y s h; simp [dmX] at h
  | succ k ih =>
    intro hk y s h
    obtain ⟨z, hz⟩ := get_of_lt (show k < zs.length by omega)
    rw [dmX_take hz] at h
    have hm := mem_of_get hz
    cases hq : dmX ps ts (zs.take k) with
    | none =>
      rw [hq, dmT_none] at h
      by_cases hg : gdB ps ts (pE z) = true
      · rw [if_pos hg] at h
        injection h with h
        injection h with h1 h2
        subst h1 h2
        exact ⟨hm, hg, rfl⟩
      · rw [if_neg hg] at h; cases h
    | some o =>
      obtain ⟨y', s'⟩ := o
      have ih := ih (by omega) y' s' hq
      rw [hq] at h
      by_cases hle : s' ≤ szP ps z
      · rw [dmT_skip hle] at h
        injection h with h
        injection h with h1 h2
        subst h1 h2
        exact ih
      · rw [dmT_less hle] at h
        by_cases hg : gdB ps ts (pE z) = true
        · rw [if_pos hg] at h
          injection h with h
          injection h with h1 h2
          subst h1 h2
          exact ⟨hm, hg, rfl⟩
        · rw [if_neg hg] at h
          injection h with h
          injection h with h1 h2
          subst h1 h2
          exact ih
theorem dmX_ok {ps : List L} {ts : List T} {zs : List (E × E)} {y : E × E} {s : Int} (h : dmX ps ts zs = some (y, s)) : y ∈ zs ∧ gdB ps ts (pE y) = true ∧ s = szP ps y := by
  refine dmX_inv ps ts zs zs.length (Nat.le_refl _) y s ?_
  rw [List.take_length]
  exact h
def dbO (ps : List L) (ts : List T) : Option ((E × E) × Int) := dmX ps ts (prL (edL ps 0))

end Go.Proofs.YtfclfmloceddfaaGreat

/- pairs of seek: contract. -/
set_option linter.unusedVariables false
set_option linter.unusedSimpArgs false
namespace Go.Proofs.YtfclfmloceddfaaGreat
open Go.RowKit Go.Shelf Tinker

/-- The edits of pairs, one behind the other. -/
def fl (zs : List (E × E)) : List E := zs.flatMap pE
theorem fl_append (xs ys : List (E × E)) : fl (xs ++ ys) = fl xs ++ fl ys := by simp [fl]
theorem fl_len : ∀ zs : List (E × E), (fl zs).length = zs.length * 2
  | [] => rfl
  | z :: r => by
    show (pE z ++ fl r).length = _
    rw [List.length_append, fl_len r, List.length_cons]
    show 2 + _ = _
    omega
theorem fl_get : ∀ {zs : List (E × E)} {k : Nat} {z : E × E}, zs[k]? = some z → (fl zs)[k * 2]? = some z.1 ∧ (fl zs)[k * 2 + 1]? = some z.2
  | [], k, z, h => by simp at h
  | y :: r, 0, z, h => by simp at h; subst h; exact ⟨rfl, rfl⟩
  | y :: r, k + 1, z, h => by
    have ih := fl_get (zs := r) (k := k) (by simpa using h)
    show (y.1 :: y.2 :: fl r)[(k + 1) * 2]? = _ ∧ (y.1 :: y.2 :: fl r)[(k + 1) * 2 + 1]? = _
    rw [show (k + 1) * 2 = k * 2 + 2 by omega]
    exact ih
/-- A new slice of pairs. -/
def GivesPairs (zs : List (E × E)) (w : World) (e : Ending) (w' : World) : Prop :=
  ∃ a k, e = .returned (.slice a zs.length k) ∧ w'.ownsRow w.heap.size 69 10 (.slice a zs.length k) zs.length (ec (fl zs)) ∧ Below w.heap.size w w'
theorem info_pair : (Tryz.prog.info? 69).map (fun i => (i.zero, i.size, i.bytes)) = some (some (.agg #[.int .i64 0, .int .i64 0, .int .i64 0, .int .i64 0, .int .i64 0, .int .i64 0, .int .i64 0, .int .i64 0, .int .i64 0, .int .i64 0]), 10, 80) := by kernel_rfl

set_option maxRecDepth 100000 in
set_option maxHeartbeats 8000000 in
theorem spairs_any (g : Option Addr) (c : Nat) (xs : List E) (w : World) (hx : EditsAt w g xs) (hc : xs.length ≤ c) (hl : xs.length ≤ 1000) :
    Calls Tryz.prog 34 #[.slice g xs.length c] w (GivesPairs (prL xs) w) := by
  obtain ⟨i0, hI, hz0, hz1, hz2⟩ := info_parts info_pair
  have HX := Lib.hid hx
  have HS := Lib.hid (fun k x (h : xs[k]? = some x) => prK_succ h)
  have HL := Lib.hid (show ∀ k, k ≤ xs.length → (prK xs k).length ≤ 1000000 from fun k hk => Nat.le_trans (prK_len xs k) (Nat.le_trans (Nat.mul_le_mul hl (Nat.le_trans hk hl)) (by decide)))
  clear hx
  go_enter Tryz.func34, Tryz.ntmps34
  go_wp2_with fail
  go_loopw [3, 10] (fun s3 s10 wr => ∃ k : Nat, k ≤ xs.length ∧ s10 = .int .i64 (k : Int) ∧ wr.ownsRow w.heap.size 69 10 s3 (prK xs k).length (ec (fl (prK xs k))) ∧ Below w.heap.size w wr) (fun _ s10 _ => xs.length - (intOf s10).toNat)
  case atStart => exact ⟨0, Nat.zero_le _, rfl, World.ownsRow_nil _ _ _ _, Below.refl _ _⟩
  case round =>
    obtain ⟨k, hk, rfl, hO, hB⟩ := hrel
    have HO := Lib.hid hO
    have HB := Lib.hid hB
    clear hO hB
    by_cases hlt : k < xs.length
    · have hlt1 : decide ((k : Int) < (xs.length : Int)) = true := decide_eq_true (by omega)
      obtain ⟨b, off, x, rfl, hlb, hx, c0, c1, c2, c3, c4⟩ := (HX.out.below HB.out (Nat.le_refl _)).at_ hlt
      have HS1 := Lib.hid (HS.out k x hx)
      have hw1 : IntKind.i64.wrap ((k : Int) + 1) = ((k + 1 : Nat) : Int) := by rw [IntWalk.i64_in _ (by omega)]; omega
      obtain ⟨va, vc, rfl⟩ := own_slice HO.out
      clear hx
      by_cases hck : c = k + 1
      · have hlk : xs.length = k + 1 := by omega
        have hN : prK xs (k + 1) = prK xs k := by rw [HS1.out, List.drop_of_length_le (by omega)]; exact List.append_nil _
        have hbl : Below wr.heap.size wr (wr.alloc (.cells (eV x) 49)) := (Below.refl _ _).alloc (Nat.le_refl _) _
        have HO1 := Lib.hid (own_below HO.out hbl (Nat.le_refl _))
        have HB1 := Lib.hid (HB.out.trans (hbl.mono HB.out.size))
        unfold eV at HO1 HB1
        have HO1 := Lib.hid (show (wr.alloc (.cells #[.int .i64 x.at_, .int .i64 x.ln.op, .int .i64 x.ln.to, .int .i64 x.ln.a, .int .i64 x.ln.b] 49)).ownsRow w.heap.size 69 10 (.slice va (prK xs k).length vc) (prK xs (k + 1)).length (ec (fl (prK xs (k + 1)))) by rw [hN]; exact HO1.out)
        have hsub : xs.length - (k + 1) = 0 := by omega
        clear hbl HO HB HS1 hN
        go_wp2_with fail
        clear c0 c1 c2 c3 c4
        go_loopw [3, 20] (fun s3 s20 wx => s20 = .int .i64 0 ∧ wx.ownsRow w.heap.size 69 10 s3 (prK xs (k + 1)).length (ec (fl (prK xs (k + 1)))) ∧ Below w.heap.size w wx) (fun _ _ _ => 0)
        case atStart => exact ⟨rfl, HO1.out, HB1.out⟩
        case round =>
          clear HO1 HB1
          obtain ⟨rfl, hO, hB⟩ := hrel
          have HO := Lib.hid hO
          have HB := Lib.hid hB
          clear hO hB
          have h00 : decide ((0 : Int) < ((xs.length - (k + 1) : Nat) : Int)) = false := decide_eq_false (by omega)
          go_wp2_with fail
          go_roundw
          case rel => exact ⟨k + 1, by omega, by go_num, HO.out, HB.out⟩
          case measure => simp [intOf]; omega
      · have hck2 : ¬ c = k + 1 := hck
        have hkc : k + 1 ≤ c := by omega
        have hkl : k + 1 ≤ xs.length := by omega
        have hyl : (xs.drop (k + 1)).length = xs.length - (k + 1) := List.length_drop
        have HYX := Lib.hid (show ∀ j, (xs.drop (k + 1))[j]? = xs[k + 1 + j]? from fun j => by rw [List.getElem?_drop])
        have hll := HL.out k (by omega)
        have hbl : Below wr.heap.size wr (wr.alloc (.cells (eV x) 49)) := (Below.refl _ _).alloc (Nat.le_refl _) _
        have HBX := Lib.hid (World.ownsRow_lit (base := wr.heap.size) (e := 49) (size := 5) wr (eV x) 1 (Nat.le_refl _) (by simp [maxLen]) (by simp [eV]))
        have HO1 := Lib.hid (own_below HO.out hbl (Nat.le_refl _))
        have HB1 := Lib.hid (HB.out.trans (hbl.mono HB.out.size))
        have hwb := HB.out.size
        unfold eV at HBX HO1 HB1
        generalize xs.drop (k + 1) = ys at *
        generalize prK xs k = LS at *
        obtain ⟨W0, hW0⟩ : ∃ W, W = wr := ⟨_, rfl⟩
        subst hW0
        obtain ⟨x0, x1, x2, x3, x4⟩ : True ∧ True ∧ True ∧ True ∧ True := ⟨trivial, trivial, trivial, trivial, trivial⟩
        clear hbl x0 x1 x2 x3 x4
        go_wp2_with fail
        clear c0 c1 c2 c3 c4
        go_loopw [3, 20] (fun s3 s20 wx => ∃ j : Nat, j ≤ xs.length - (k + 1) ∧ s20 = .int .i64 (j : Int) ∧ wx.ownsRow w.heap.size 69 10 s3 (LS ++ prX x (ys.take j)).length (ec (fl (LS ++ prX x (ys.take j)))) ∧ wx.ownsRow W0.heap.size 49 5 (.slice (some ⟨W0.heap.size, 0, none⟩) 1 1) 1 [.int .i64 x.at_, .int .i64 x.ln.op, .int .i64 x.ln.to, .int .i64 x.ln.a, .int .i64 x.ln.b] ∧ Below w.heap.size w wx) (fun _ s20 _ => xs.length - (k + 1) - (intOf s20).toNat)
        case atStart => exact ⟨0, Nat.zero_le _, rfl, by rw [show prX x (ys.take 0) = [] from rfl, List.append_nil]; exact HO1.out, HBX.out, HB1.out⟩
        case round =>
          clear HO HB HO1 HB1 HBX
          obtain ⟨j, hj, rfl, hO, hX, hB⟩ := hrel
          have HO := Lib.hid hO
          have HXB := Lib.hid hX
          have HB := Lib.hid hB
          clear hO hX hB
          by_cases hlj : j < xs.length - (k + 1)
          · have hlj1 : decide ((j : Int) < ((xs.length - (k + 1) : Nat) : Int)) = true := decide_eq_true (by omega)
            obtain ⟨b', off', y, eb, hlb2, hy, d0, d1, d2, d3, d4⟩ := (HX.out.below HB.out (Nat.le_refl _)).at_ (k := k + 1 + j) (by omega)
            injection eb with eb
            injection eb with eb1 eb2 eb3
            subst eb1 eb2
            rw [← HYX.out j] at hy
            rw [show off + (k + 1 + j) * 5 = off + (k + 1) * 5 + j * 5 by omega] at d0 d1 d2 d3 d4
            have x0 := own_cell HXB.out (j := 0) (by rfl)
            have x1 := own_cell HXB.out (j := 1) (by rfl)
            have x2 := own_cell HXB.out (j := 2) (by rfl)
            have x3 := own_cell HXB.out (j := 3) (by rfl)
            have x4 := own_cell HXB.out (j := 4) (by rfl)
            have hal : Below wr.heap.size wr (wr.alloc (.cells (eV y) 49)) := (Below.refl _ _).alloc (Nat.le_refl _) _
            have hxb : W0.heap.size < wr.heap.size := by
              obtain ⟨g', _, _, he, _, hg', _⟩ := HXB.out.2.resolve_left (by rintro ⟨h, _⟩; cases h)
              injection he with ha _ _
              injection ha with ha
              injection ha with ha
              rw [ha]
              exact hp_lt hg'
            have hpl : (prX x (ys.take j)).length ≤ 1000 := Nat.le_trans (prX_len _ _) (by rw [List.length_take]; omega)
            by_cases hat : x.at_ < y.at_
            · have ha1 : decide (x.at_ < y.at_) = true := decide_eq_true hat
              have HN := Lib.hid (show LS ++ prX x (ys.take (j + 1)) = (LS ++ prX x (ys.take j)) ++ [(x, y)] by rw [prX_hit hy hat, List.append_assoc])
              have hll2 : (LS ++ prX x (ys.take j)).length ≤ 1100000 := by rw [List.length_append]; omega
              generalize (LS ++ prX x (ys.take j)) = LS2 at *
              clear hy hat
              obtain ⟨va2, vc2, rfl⟩ := own_slice HO.out
              have hal2 := hal.alloc hal.size (.cells #[.int .i64 x.at_, .int .i64 x.ln.op, .int .i64 x.ln.to, .int .i64 x.ln.a, .int .i64 x.ln.b, .int .i64 y.at_, .int .i64 y.ln.op, .int .i64 y.ln.to, .int .i64 y.ln.a, .int .i64 y.ln.b] 69)
              have HO2 := Lib.hid (own_below HO.out hal2 (Nat.le_refl _))
              have HXB2 := Lib.hid (own_below HXB.out hal2 (Nat.le_refl _))
              have HB2 := Lib.hid (HB.out.trans (hal2.mono HB.out.size))
              have y0 := (hal.cell (p := ⟨W0.heap.size, 0, none⟩) hxb).trans x0
              have y1 := (hal.cell (p := ⟨W0.heap.size, 1, none⟩) hxb).trans x1
              have y2 := (hal.cell (p := ⟨W0.heap.size, 2, none⟩) hxb).trans x2
              have y3 := (hal.cell (p := ⟨W0.heap.size, 3, none⟩) hxb).trans x3
              have y4 := (hal.cell (p := ⟨W0.heap.size, 4, none⟩) hxb).trans x4
              unfold eV at HO2 HXB2 HB2 y0 y1 y2 y3 y4
              clear hal hal2 HO HXB HB x0 x1 x2 x3 x4
              go_wp2_with (at_builtin; (refine wpList_append_own _ rfl (.tmp 29) (.tmp 33) 72 rfl w.heap.size 69 i0 (.agg #[.int .i64 0, .int .i64 0, .int .i64 0, .int .i64 0, .int .i64 0, .int .i64 0, .int .i64 0, .int .i64 0, .int .i64 0, .int .i64 0]) 10 80 Tryz.underlying72 hI hz0 hz1 hz2 rfl (by decide) (.slice va2 LS2.length vc2) LS2.length (ec (fl LS2)) rfl HO2.out ⟨wr.heap.size + 1, 0, none⟩ 1 1 (ec (fl [(x, y)])) rfl ?c1 ?c2 ?c3 ?c4 ?c5 ?c6 ?_))
              case c1 => rfl
              case c2 => exact fun j u h => h
              case c3 => exact ec_one _
              case c4 => simp [maxLen]; omega
              case c5 => omega
              case c6 => first | exact HB2.out.size | (have h9 := HB2.out.size; simp at h9; omega)
              intro v' w5 hown hgrow _
              have HB5 := Lib.hid (HB2.out.grown hgrow HB2.out.size (by rintro k hk; exact (HO2.out.lt k hk).1))
              have HO5 := Lib.hid (show w5.ownsRow w.heap.size 69 10 v' (LS2.length + 1) (ec (fl (LS2 ++ [(x, y)]))) by rw [fl_append, ec_append]; exact hown)
              have HX5 := Lib.hid (HXB2.out.kept hgrow (own_ne5 HO2.out HXB2.out (by decide)))
              clear hown hgrow
              go_wp2_with fail
              go_roundw
              case rel => exact ⟨j + 1, by omega, by go_num, by rw [HN.out, List.length_append]; exact HO5.out, HX5.out, HB5.out⟩
              case measure => simp [intOf]; omega
            · have ha1 : decide (x.at_ < y.at_) = false := decide_eq_false hat
              have HN := Lib.hid (prX_miss hy hat)
              have HO2 := Lib.hid (own_below HO.out hal (Nat.le_refl _))
              have HXB2 := Lib.hid (own_below HXB.out hal (Nat.le_refl _))
              have HB2 := Lib.hid (HB.out.trans (hal.mono HB.out.size))
              have y0 := (hal.cell (p := ⟨W0.heap.size, 0, none⟩) hxb).trans x0
              unfold eV at HO2 HXB2 HB2 y0
              clear hal HO HXB HB x0 x1 x2 x3 x4 hy hat
              go_wp2_with fail
              go_roundw
              case rel => exact ⟨j + 1, by omega, by go_num, by rw [HN.out]; exact HO2.out, HXB2.out, HB2.out⟩
              case measure => simp [intOf]; omega
          · obtain rfl : j = xs.length - (k + 1) := by omega
            have hlj1 : decide (((xs.length - (k + 1) : Nat) : Int) < ((xs.length - (k + 1) : Nat) : Int)) = false := decide_eq_false (by omega)
            have hO := HO.out
            rw [List.take_of_length_le (by omega), ← HS1.out] at hO
            have HO := Lib.hid hO
            clear hO
            go_wp2_with fail
            go_roundw
            case rel => exact ⟨k + 1, by omega, by go_num, HO.out, HB.out⟩
            case measure => simp [intOf]; omega
    · obtain rfl : k = xs.length := by omega
      have hlt1 : decide ((xs.length : Int) < (xs.length : Int)) = false := decide_eq_false (by omega)
      obtain ⟨va, vc, rfl⟩ := own_slice HO.out
      go_wp2_with fail
      go_ret
      exact ⟨_, _, rfl, HO.out, HB.out⟩

end Go.Proofs.YtfclfmloceddfaaGreat

/- double$1, smallest[pair] of seek: contracts. -/
set_option linter.unusedVariables false
set_option linter.unusedSimpArgs false
namespace Go.Proofs.YtfclfmloceddfaaGreat
open Go.RowKit Go.Shelf Tinker

/-- A pair's ten cells. -/
def zV (z : E × E) : Array Value := #[.int .i64 z.1.at_, .int .i64 z.1.ln.op, .int .i64 z.1.ln.to, .int .i64 z.1.ln.a, .int .i64 z.1.ln.b, .int .i64 z.2.at_, .int .i64 z.2.ln.op, .int .i64 z.2.ln.to, .int .i64 z.2.ln.a, .int .i64 z.2.ln.b]
theorem pair_at (w : World) (t : TypeId) (z : E × E) : EditsAt (w.alloc (.cells (zV z) t)) (some ⟨w.heap.size, 0, none⟩) (pE z) :=
  .inr ⟨w.heap.size, 0, rfl, by simp, fun j l hj => by
    match j, hj with
    | 0, hj =>
      have hj : z.1 = l := by simpa [pE] using hj
      subst hj
      exact ⟨hp_cell (hp_new rfl) rfl, hp_cell (hp_new rfl) rfl, hp_cell (hp_new rfl) rfl, hp_cell (hp_new rfl) rfl, hp_cell (hp_new rfl) rfl⟩
    | 1, hj =>
      have hj : z.2 = l := by simpa [pE] using hj
      subst hj
      exact ⟨hp_cell (hp_new rfl) rfl, hp_cell (hp_new rfl) rfl, hp_cell (hp_new rfl) rfl, hp_cell (hp_new rfl) rfl, hp_cell (hp_new rfl) rfl⟩
    | j + 2, hj => simp [pE] at hj⟩
/-- The smallest pair so far, or the zero pair. -/
def bsZ (o : Option ((E × E) × Int)) : E × E := match o with | some y => y.1 | none => (eZ, eZ)
def bsW (o : Option ((E × E) × Int)) : Int := match o with | some y => y.2 | none => 0

set_option maxRecDepth 100000 in
set_option maxHeartbeats 1000000 in
theorem double1_any (z : E × E) (w : World) : Calls Tryz.prog 36 #[.agg (zV z)] w fun e w' => ∃ g, e = .returned (.slice (some ⟨g, 0, none⟩) 2 2) ∧ EditsAt w' (some ⟨g, 0, none⟩) (pE z) ∧ Below w.heap.size w w' := by
  have HE := Lib.hid (pair_at w 69 z)
  have HB := Lib.hid ((Below.refl w.heap.size w).alloc (Nat.le_refl _) (.cells (zV z) 69))
  unfold zV at HE HB ⊢
  go_enter Tryz.func36, Tryz.ntmps36
  go_wp2_with fail
  go_ret
  exact ⟨_, rfl, HE.out, HB.out⟩

theorem put10 {w : World} {g : Nat} {t : TypeId} {c0 c1 c2 c3 c4 c5 c6 c7 c8 c9 : Value} (v0 v1 v2 v3 v4 v5 v6 v7 v8 v9 : Value) (h : w.heap[g]? = some (.cells #[c0, c1, c2, c3, c4, c5, c6, c7, c8, c9] t (0, 0))) : ((((((((((w.setCell ⟨g, 0, none⟩ v0).setCell ⟨g, 1, none⟩ v1).setCell ⟨g, 2, none⟩ v2).setCell ⟨g, 3, none⟩ v3).setCell ⟨g, 4, none⟩ v4).setCell ⟨g, 5, none⟩ v5).setCell ⟨g, 6, none⟩ v6).setCell ⟨g, 7, none⟩ v7).setCell ⟨g, 8, none⟩ v8).setCell ⟨g, 9, none⟩ v9).heap[g]? = some (.cells #[v0, v1, v2, v3, v4, v5, v6, v7, v8, v9] t (0, 0)) := by
  have h := hp_put h 0 v0
  simp only [List.setIfInBounds_toArray, List.set_cons_zero, List.set_cons_succ] at h
  have h := hp_put h 1 v1
  simp only [List.setIfInBounds_toArray, List.set_cons_zero, List.set_cons_succ] at h
  have h := hp_put h 2 v2
  simp only [List.setIfInBounds_toArray, List.set_cons_zero, List.set_cons_succ] at h
  have h := hp_put h 3 v3
  simp only [List.setIfInBounds_toArray, List.set_cons_zero, List.set_cons_succ] at h
  have h := hp_put h 4 v4
  simp only [List.setIfInBounds_toArray, List.set_cons_zero, List.set_cons_succ] at h
  have h := hp_put h 5 v5
  simp only [List.setIfInBounds_toArray, List.set_cons_zero, List.set_cons_succ] at h
  have h := hp_put h 6 v6
  simp only [List.setIfInBounds_toArray, List.set_cons_zero, List.set_cons_succ] at h
  have h := hp_put h 7 v7
  simp only [List.setIfInBounds_toArray, List.set_cons_zero, List.set_cons_succ] at h
  have h := hp_put h 8 v8
  simp only [List.setIfInBounds_toArray, List.set_cons_zero, List.set_cons_succ] at h
  have h := hp_put h 9 v9
  simp only [List.setIfInBounds_toArray, List.set_cons_zero, List.set_cons_succ] at h
  exact h
theorem set10 {w : World} {g i : Nat} {o : Obj} (v0 v1 v2 v3 v4 v5 v6 v7 v8 v9 : Value) (h : w.heap[i]? = some o) (hg : i ≠ g) : ((((((((((w.setCell ⟨g, 0, none⟩ v0).setCell ⟨g, 1, none⟩ v1).setCell ⟨g, 2, none⟩ v2).setCell ⟨g, 3, none⟩ v3).setCell ⟨g, 4, none⟩ v4).setCell ⟨g, 5, none⟩ v5).setCell ⟨g, 6, none⟩ v6).setCell ⟨g, 7, none⟩ v7).setCell ⟨g, 8, none⟩ v8).setCell ⟨g, 9, none⟩ v9).heap[i]? = some o := (hp_set (hp_set (hp_set (hp_set (hp_set (hp_set (hp_set (hp_set (hp_set (hp_set h hg _) hg _) hg _) hg _) hg _) hg _) hg _) hg _) hg _) hg _)
theorem bel10 {u w : World} {B g : Nat} (v0 v1 v2 v3 v4 v5 v6 v7 v8 v9 : Value) (hb : Below B u w) (hg : B ≤ g) : Below B u ((((((((((w.setCell ⟨g, 0, none⟩ v0).setCell ⟨g, 1, none⟩ v1).setCell ⟨g, 2, none⟩ v2).setCell ⟨g, 3, none⟩ v3).setCell ⟨g, 4, none⟩ v4).setCell ⟨g, 5, none⟩ v5).setCell ⟨g, 6, none⟩ v6).setCell ⟨g, 7, none⟩ v7).setCell ⟨g, 8, none⟩ v8).setCell ⟨g, 9, none⟩ v9) := ((((((((((hb.setCell (p := ⟨g, _, none⟩) hg _).setCell (p := ⟨g, _, none⟩) hg _).setCell (p := ⟨g, _, none⟩) hg _).setCell (p := ⟨g, _, none⟩) hg _).setCell (p := ⟨g, _, none⟩) hg _).setCell (p := ⟨g, _, none⟩) hg _).setCell (p := ⟨g, _, none⟩) hg _).setCell (p := ⟨g, _, none⟩) hg _).setCell (p := ⟨g, _, none⟩) hg _).setCell (p := ⟨g, _, none⟩) hg _)

theorem results_row_tmp {fn : Func} {p u : Tmp} {ty : TypeId} (h : fn.results = #[.cell p ty, .tmp u]) {P : Program} (tmps : Array Value) (w : World) (g : Nat) (t : TypeId) (cs : Array Value) (fr : Nat × Nat) {n0 : Nat} {e0 : TypeId}
    (hp : tmps.getD p undef = .pointer (some ⟨g, 0, none⟩)) (hg : w.heap[g]? = some (.cells cs t fr))
    (hu : P.underlying ty = some (.array n0 e0)) (hi : (P.info? ty).map (·.size) = some cs.size) {v : Value} (hv : tmps.getD u undef = v) :
    (results fn tmps).run P w = .ok (.tuple #[.agg cs, v]) w := by
  subst hv
  have hp' : tmps[p]?.getD undef = .pointer (some ⟨g, 0, none⟩) := by simpa using hp
  simp [results, h, hp', asAddr, run_loadVar_row w g t ty cs fr _ hg hu rfl hi]
theorem size_pair : (Tryz.prog.info? 69).map (·.size) = some 10 := by kernel_rfl
/-- Ten cells of a row of pairs. -/
theorem pairs_at {w : World} {bs : Nat} {g : Option Addr} {cg : Nat} {zs : List (E × E)} (h : w.ownsRow bs 69 10 (.slice g zs.length cg) zs.length (ec (fl zs))) {k : Nat} {z : E × E} (hk : zs[k]? = some z) :
    ∃ b off, g = some ⟨b, off, none⟩ ∧ b < w.heap.size ∧ w.cell? ⟨b, off + k * 10, none⟩ = some (.int .i64 z.1.at_) ∧ w.cell? ⟨b, off + k * 10 + 1, none⟩ = some (.int .i64 z.1.ln.op) ∧ w.cell? ⟨b, off + k * 10 + 2, none⟩ = some (.int .i64 z.1.ln.to) ∧ w.cell? ⟨b, off + k * 10 + 3, none⟩ = some (.int .i64 z.1.ln.a) ∧ w.cell? ⟨b, off + k * 10 + 4, none⟩ = some (.int .i64 z.1.ln.b) ∧ w.cell? ⟨b, off + k * 10 + 5, none⟩ = some (.int .i64 z.2.at_) ∧ w.cell? ⟨b, off + k * 10 + 6, none⟩ = some (.int .i64 z.2.ln.op) ∧ w.cell? ⟨b, off + k * 10 + 7, none⟩ = some (.int .i64 z.2.ln.to) ∧ w.cell? ⟨b, off + k * 10 + 8, none⟩ = some (.int .i64 z.2.ln.a) ∧ w.cell? ⟨b, off + k * 10 + 9, none⟩ = some (.int .i64 z.2.ln.b) := by
  rcases h.2 with ⟨he, hn⟩ | ⟨b, cap, cur, he, _, hg, _⟩
  · exfalso
    have := (List.getElem?_eq_some_iff.1 hk).1
    omega
  · injection he with ha _ _
    subst ha
    obtain ⟨h1, h2⟩ := fl_get hk
    obtain ⟨a0, a1, a2, a3, a4⟩ := ec_get h1
    obtain ⟨b0, b1, b2, b3, b4⟩ := ec_get h2
    rw [show k * 2 * 5 = 0 + k * 10 by omega] at a0 a1 a2 a3 a4
    rw [show (k * 2 + 1) * 5 = 0 + k * 10 + 5 by omega] at b0 b1 b2 b3 b4
    exact ⟨b, 0, rfl, hp_lt hg, own_cell h a0, own_cell h a1, own_cell h a2, own_cell h a3, own_cell h a4, own_cell h b0, own_cell h b1, own_cell h b2, own_cell h b3, own_cell h b4⟩

set_option maxRecDepth 100000 in
set_option maxHeartbeats 8000000 in
theorem smallestP_any (a h : Option Addr) (ca ch : Nat) (ps : List L) (ts : List T) (bs : Nat) (g : Option Addr) (cg : Nat) (zs : List (E × E)) (w : World) (hp : LinesAt w a ps) (hts : TestsAt w h ts) (hx : w.ownsRow bs 69 10 (.slice g zs.length cg) zs.length (ec (fl zs))) (hok : ∀ z ∈ zs, vpx ps (pE z) 0 = 0) (ht : vts ts = 0) (hpl : ps.length ≤ 1000) (hxl : zs.length ≤ 1000000) :
    Calls Tryz.prog 33 #[.slice a ps.length ca, .slice h ts.length ch, .slice g zs.length cg, .func (.func 36) #[] #[]] w fun e w' => e = .returned (.tuple #[.agg (zV (bsZ (dmX ps ts zs))), .bool (dmX ps ts zs).isSome]) ∧ Below w.heap.size w w' := by
  obtain ⟨t8, hT⟩ := vts_ok ht
  have hml : ∀ t ∈ ts, t.inn.length ≤ 1000 := fun t h => by have := (vs_ok (isT_ok (hT t h)).1).1; omega
  have HS := Lib.hid (fun x w => double1_any x w)
  have HSZ := Lib.hid (fun x g w h1 h2 => pSize_any a g ca 2 ps (pE x) w h1 h2 (by simp [pE]) hpl)
  have HGD := Lib.hid (fun x g w h1 h2 h3 => pIsGood_any a g h ca 2 ch ps (pE x) ts w h1 h2 h3 (by simp [pE]) (by omega) hml hpl)
  simp only [show ∀ x, (pE x).length = 2 from fun _ => rfl] at HSZ HGD
  have HOK := Lib.hid hok
  have HV := Lib.hid ht
  have HP := Lib.hid hp
  have HT := Lib.hid hts
  have HXS := Lib.hid (fun (w2 : World) (hB : Below w.heap.size w w2) k z (h : zs[k]? = some z) => pairs_at (own_below hx hB (Nat.le_refl _)) h)
  have HTK := Lib.hid (fun k x (h : zs[k]? = some x) => dmX_take (ps := ps) (ts := ts) h)
  have HZ := Lib.hid (show dmX ps ts (zs.take 0) = none from rfl)
  have HEND := Lib.hid (show ∀ k, ¬ k < zs.length → zs.take k = zs from fun k h => List.take_of_length_le (by omega))
  have HRS := Lib.hid (hp_new (w := w) (o := .cells #[.int .i64 0, .int .i64 0, .int .i64 0, .int .i64 0, .int .i64 0, .int .i64 0, .int .i64 0, .int .i64 0, .int .i64 0, .int .i64 0] 69 (0, 0)) rfl)
  have HB0 := Lib.hid (((Below.refl w.heap.size w).alloc (Nat.le_refl _) (.cells #[.int .i64 0, .int .i64 0, .int .i64 0, .int .i64 0, .int .i64 0, .int .i64 0, .int .i64 0, .int .i64 0, .int .i64 0, .int .i64 0] 69)).alloc (by simp) (.cells #[.int .i64 0, .int .i64 0, .int .i64 0, .int .i64 0, .int .i64 0, .int .i64 0, .int .i64 0, .int .i64 0, .int .i64 0, .int .i64 0] 69))
  clear hok ht hp hts hx hml hT
  go_enter Tryz.func33, Tryz.ntmps33
  go_wp2_with fail
  go_loopw [11, 12, 22] (fun s11 s12 s22 wr => ∃ k : Nat, k ≤ zs.length ∧ s22 = .int .i64 (k : Int) ∧ s11 = .int .i64 (bsW (dmX ps ts (zs.take k))) ∧ s12 = .bool (dmX ps ts (zs.take k)).isSome ∧ wr.heap[w.heap.size]? = some (.cells #[.int .i64 0, .int .i64 0, .int .i64 0, .int .i64 0, .int .i64 0, .int .i64 0, .int .i64 0, .int .i64 0, .int .i64 0, .int .i64 0] 69 (0, 0)) ∧ wr.heap[w.heap.size + 1]? = some (.cells (zV (bsZ (dmX ps ts (zs.take k)))) 69 (0, 0)) ∧ Below w.heap.size w wr) (fun _ _ s22 _ => zs.length - (intOf s22).toNat)
  case atStart => exact ⟨0, Nat.zero_le _, rfl, rfl, rfl, hp_alloc HRS.out, hp_new (by simp), HB0.out⟩
  case round =>
    clear HB0 HRS
    obtain ⟨k, hk, rfl, rfl, rfl, hR, hBx, hB⟩ := hrel
    have HR := Lib.hid hR
    have HBx := Lib.hid hBx
    have HB := Lib.hid hB
    clear hR hBx hB
    by_cases hlt : k < zs.length
    · have hlt1 : decide ((k : Int) < (zs.length : Int)) = true := decide_eq_true (by omega)
      obtain ⟨x, hx⟩ := get_of_lt hlt
      obtain ⟨b, off, rfl, hlb, c0, c1, c2, c3, c4, c5, c6, c7, c8, c9⟩ := HXS.out _ HB.out k x hx
      have hvx := HOK.out x (mem_of_get hx)
      have HTK1 := Lib.hid (HTK.out k x hx)
      have HS1 := Lib.hid (fun w => HS.out x w)
      have HSZ1 := Lib.hid (fun g w h1 h2 => HSZ.out x g w h1 h2)
      have HG1 := Lib.hid (fun g w h1 h2 h3 => HGD.out x g w h1 h2 h3)
      have e1 : szR ps (pE x) = szP ps x := szR_two hvx
      have e2 : gdR ps (pE x) ts = gdB ps ts (pE x) := by unfold gdR; rw [HV.out, if_pos hvx]
      rw [e1, hvx] at HSZ1
      rw [e2, HV.out, hvx] at HG1
      have hbz := szP_le ps x
      have hal : Below wr.heap.size wr (wr.alloc (.cells (zV x) 69)) := (Below.refl _ _).alloc (Nat.le_refl _) _
      have HBn := Lib.hid (HB.out.trans (hal.mono HB.out.size))
      have HRn := Lib.hid (hp_below HR.out hal (hp_lt HR.out))
      have HBxn := Lib.hid (hp_below HBx.out hal (hp_lt HBx.out))
      have HNn := Lib.hid (show (wr.alloc (.cells (zV x) 69)).heap[wr.heap.size]? = some (.cells (zV x) 69 (0, 0)) from hp_new rfl)
      have hnb : w.heap.size + 1 < wr.heap.size := hp_lt HBx.out
      clear hx hal hvx e1 e2 HR HBx HTK HSZ HGD HS
      generalize dmX ps ts (zs.take k) = o at *
      unfold zV at HS1 HBn HRn HBxn HNn
      cases o with
      | none =>
        rw [dmT_none] at HTK1
        generalize szP ps x = sz at *
        cases hgd : gdB ps ts (pE x) with
        | false =>
          have HO := Lib.hid (show dmX ps ts (zs.take (k + 1)) = none by rw [HTK1.out, hgd]; rfl)
          rw [hgd] at HG1
          clear hgd HTK1
          go_wp2_with fail
          refine (HS1.out _).mono ?_
          rintro e w2 ⟨g2, rfl, hx2, hB⟩
          have HB2 := Lib.hid (HBn.out.trans (hB.mono HBn.out.size))
          have HR := Lib.hid (hp_below HRn.out hB (hp_lt HRn.out))
          have HBx := Lib.hid (hp_below HBxn.out hB (hp_lt HBxn.out))
          have HNb := Lib.hid (hp_below HNn.out hB (hp_lt HNn.out))
          have HX2 := Lib.hid hx2
          clear hB hx2 c0 c1 c2 c3 c4 c5 c6 c7 c8 c9
          go_wp2_with fail
          refine (HSZ1.out _ _ (HP.out.below HB2.out (Nat.le_refl _)) HX2.out).mono ?_
          rintro e w3 ⟨rfl, hB⟩
          have HB3 := Lib.hid (HB2.out.trans (hB.mono HB2.out.size))
          have HR := Lib.hid (hp_below HR.out hB (hp_lt HR.out))
          have HBx := Lib.hid (hp_below HBx.out hB (hp_lt HBx.out))
          have HNb := Lib.hid (hp_below HNb.out hB (hp_lt HNb.out))
          have HX2 := Lib.hid (HX2.out.below hB (Nat.le_refl _))
          clear hB
          go_wp2_with fail
          refine (HG1.out _ _ (HP.out.below HB3.out (Nat.le_refl _)) HX2.out (HT.out.below HB3.out (Nat.le_refl _))).mono ?_
          rintro e w4 ⟨rfl, hB⟩
          have HB4 := Lib.hid (HB3.out.trans (hB.mono HB3.out.size))
          have HR := Lib.hid (hp_below HR.out hB (hp_lt HR.out))
          have HBx := Lib.hid (hp_below HBx.out hB (hp_lt HBx.out))
          have HNb := Lib.hid (hp_below HNb.out hB (hp_lt HNb.out))
          clear hB
          go_wp2_with fail
          go_roundw
          case rel => exact ⟨k + 1, by omega, by go_num, by rw [HO.out] <;> rfl, by rw [HO.out] <;> rfl, HR.out, by rw [HO.out]; exact HBx.out, HB4.out⟩
          case measure => simp [intOf]; omega
        | true =>
          have HO := Lib.hid (show dmX ps ts (zs.take (k + 1)) = some (x, sz) by rw [HTK1.out, hgd]; rfl)
          rw [hgd] at HG1
          clear hgd HTK1
          go_wp2_with fail
          refine (HS1.out _).mono ?_
          rintro e w2 ⟨g2, rfl, hx2, hB⟩
          have HB2 := Lib.hid (HBn.out.trans (hB.mono HBn.out.size))
          have HR := Lib.hid (hp_below HRn.out hB (hp_lt HRn.out))
          have HBx := Lib.hid (hp_below HBxn.out hB (hp_lt HBxn.out))
          have HNb := Lib.hid (hp_below HNn.out hB (hp_lt HNn.out))
          have HX2 := Lib.hid hx2
          clear hB hx2 c0 c1 c2 c3 c4 c5 c6 c7 c8 c9
          go_wp2_with fail
          refine (HSZ1.out _ _ (HP.out.below HB2.out (Nat.le_refl _)) HX2.out).mono ?_
          rintro e w3 ⟨rfl, hB⟩
          have HB3 := Lib.hid (HB2.out.trans (hB.mono HB2.out.size))
          have HR := Lib.hid (hp_below HR.out hB (hp_lt HR.out))
          have HBx := Lib.hid (hp_below HBx.out hB (hp_lt HBx.out))
          have HNb := Lib.hid (hp_below HNb.out hB (hp_lt HNb.out))
          have HX2 := Lib.hid (HX2.out.below hB (Nat.le_refl _))
          clear hB
          go_wp2_with fail
          refine (HG1.out _ _ (HP.out.below HB3.out (Nat.le_refl _)) HX2.out (HT.out.below HB3.out (Nat.le_refl _))).mono ?_
          rintro e w4 ⟨rfl, hB⟩
          have HB4 := Lib.hid (HB3.out.trans (hB.mono HB3.out.size))
          have HR := Lib.hid (hp_below HR.out hB (hp_lt HR.out))
          have HBx := Lib.hid (hp_below HBx.out hB (hp_lt HBx.out))
          have HNb := Lib.hid (hp_below HNb.out hB (hp_lt HNb.out))
          clear hB
          have y0 := hp_cell HNb.out (j := 0) (by rfl)
          have y1 := hp_cell HNb.out (j := 1) (by rfl)
          have y2 := hp_cell HNb.out (j := 2) (by rfl)
          have y3 := hp_cell HNb.out (j := 3) (by rfl)
          have y4 := hp_cell HNb.out (j := 4) (by rfl)
          have y5 := hp_cell HNb.out (j := 5) (by rfl)
          have y6 := hp_cell HNb.out (j := 6) (by rfl)
          have y7 := hp_cell HNb.out (j := 7) (by rfl)
          have y8 := hp_cell HNb.out (j := 8) (by rfl)
          have y9 := hp_cell HNb.out (j := 9) (by rfl)
          have z0 := hp_cell HBx.out (j := 0) (by rfl)
          have z1 := hp_cell HBx.out (j := 1) (by rfl)
          have z2 := hp_cell HBx.out (j := 2) (by rfl)
          have z3 := hp_cell HBx.out (j := 3) (by rfl)
          have z4 := hp_cell HBx.out (j := 4) (by rfl)
          have z5 := hp_cell HBx.out (j := 5) (by rfl)
          have z6 := hp_cell HBx.out (j := 6) (by rfl)
          have z7 := hp_cell HBx.out (j := 7) (by rfl)
          have z8 := hp_cell HBx.out (j := 8) (by rfl)
          have z9 := hp_cell HBx.out (j := 9) (by rfl)
          have f0 := hp_free HBx.out 0
          have f1 := hp_free HBx.out 1
          have f2 := hp_free HBx.out 2
          have f3 := hp_free HBx.out 3
          have f4 := hp_free HBx.out 4
          have f5 := hp_free HBx.out 5
          have f6 := hp_free HBx.out 6
          have f7 := hp_free HBx.out 7
          have f8 := hp_free HBx.out 8
          have f9 := hp_free HBx.out 9
          have HR9 := Lib.hid (show ((((((((((w4.setCell ⟨(w.heap.size + 1), 0, none⟩ (.int .i64 x.1.at_)).setCell ⟨(w.heap.size + 1), 1, none⟩ (.int .i64 x.1.ln.op)).setCell ⟨(w.heap.size + 1), 2, none⟩ (.int .i64 x.1.ln.to)).setCell ⟨(w.heap.size + 1), 3, none⟩ (.int .i64 x.1.ln.a)).setCell ⟨(w.heap.size + 1), 4, none⟩ (.int .i64 x.1.ln.b)).setCell ⟨(w.heap.size + 1), 5, none⟩ (.int .i64 x.2.at_)).setCell ⟨(w.heap.size + 1), 6, none⟩ (.int .i64 x.2.ln.op)).setCell ⟨(w.heap.size + 1), 7, none⟩ (.int .i64 x.2.ln.to)).setCell ⟨(w.heap.size + 1), 8, none⟩ (.int .i64 x.2.ln.a)).setCell ⟨(w.heap.size + 1), 9, none⟩ (.int .i64 x.2.ln.b)).heap[w.heap.size]? = some (.cells #[.int .i64 0, .int .i64 0, .int .i64 0, .int .i64 0, .int .i64 0, .int .i64 0, .int .i64 0, .int .i64 0, .int .i64 0, .int .i64 0] 69 (0, 0)) from set10 _ _ _ _ _ _ _ _ _ _ HR.out (Nat.ne_of_lt (Nat.lt_succ_self _)))
          have HF := Lib.hid (show ((((((((((w4.setCell ⟨(w.heap.size + 1), 0, none⟩ (.int .i64 x.1.at_)).setCell ⟨(w.heap.size + 1), 1, none⟩ (.int .i64 x.1.ln.op)).setCell ⟨(w.heap.size + 1), 2, none⟩ (.int .i64 x.1.ln.to)).setCell ⟨(w.heap.size + 1), 3, none⟩ (.int .i64 x.1.ln.a)).setCell ⟨(w.heap.size + 1), 4, none⟩ (.int .i64 x.1.ln.b)).setCell ⟨(w.heap.size + 1), 5, none⟩ (.int .i64 x.2.at_)).setCell ⟨(w.heap.size + 1), 6, none⟩ (.int .i64 x.2.ln.op)).setCell ⟨(w.heap.size + 1), 7, none⟩ (.int .i64 x.2.ln.to)).setCell ⟨(w.heap.size + 1), 8, none⟩ (.int .i64 x.2.ln.a)).setCell ⟨(w.heap.size + 1), 9, none⟩ (.int .i64 x.2.ln.b)).heap[w.heap.size + 1]? = some (.cells #[.int .i64 x.1.at_, .int .i64 x.1.ln.op, .int .i64 x.1.ln.to, .int .i64 x.1.ln.a, .int .i64 x.1.ln.b, .int .i64 x.2.at_, .int .i64 x.2.ln.op, .int .i64 x.2.ln.to, .int .i64 x.2.ln.a, .int .i64 x.2.ln.b] 69 (0, 0)) from put10 _ _ _ _ _ _ _ _ _ _ HBx.out)
          have HBL := Lib.hid (show Below w.heap.size w ((((((((((w4.setCell ⟨(w.heap.size + 1), 0, none⟩ (.int .i64 x.1.at_)).setCell ⟨(w.heap.size + 1), 1, none⟩ (.int .i64 x.1.ln.op)).setCell ⟨(w.heap.size + 1), 2, none⟩ (.int .i64 x.1.ln.to)).setCell ⟨(w.heap.size + 1), 3, none⟩ (.int .i64 x.1.ln.a)).setCell ⟨(w.heap.size + 1), 4, none⟩ (.int .i64 x.1.ln.b)).setCell ⟨(w.heap.size + 1), 5, none⟩ (.int .i64 x.2.at_)).setCell ⟨(w.heap.size + 1), 6, none⟩ (.int .i64 x.2.ln.op)).setCell ⟨(w.heap.size + 1), 7, none⟩ (.int .i64 x.2.ln.to)).setCell ⟨(w.heap.size + 1), 8, none⟩ (.int .i64 x.2.ln.a)).setCell ⟨(w.heap.size + 1), 9, none⟩ (.int .i64 x.2.ln.b)) from bel10 _ _ _ _ _ _ _ _ _ _ HB4.out (Nat.le_succ _))
          go_wp2_with fail
          go_roundw
          case rel => exact ⟨k + 1, by omega, by go_num, by rw [HO.out] <;> rfl, by rw [HO.out] <;> rfl, HR9.out, by rw [HO.out]; exact HF.out, HBL.out⟩
          case measure => simp [intOf]; omega
      | some ys =>
        obtain ⟨y, s⟩ := ys
        by_cases hle : s ≤ szP ps x
        · rw [dmT_skip hle] at HTK1
          have HO := Lib.hid (show dmX ps ts (zs.take (k + 1)) = some (y, s) by rw [HTK1.out])
          generalize szP ps x = sz at *
          have hd : decide (s ≤ sz) = true := decide_eq_true hle
          clear HTK1 hle
          rw [show bsW (some (y, s)) = s from rfl, show (some (y, s)).isSome = true from rfl]
          go_wp2_with fail
          refine (HS1.out _).mono ?_
          rintro e w2 ⟨g2, rfl, hx2, hB⟩
          have HB2 := Lib.hid (HBn.out.trans (hB.mono HBn.out.size))
          have HR := Lib.hid (hp_below HRn.out hB (hp_lt HRn.out))
          have HBx := Lib.hid (hp_below HBxn.out hB (hp_lt HBxn.out))
          have HNb := Lib.hid (hp_below HNn.out hB (hp_lt HNn.out))
          have HX2 := Lib.hid hx2
          clear hB hx2 c0 c1 c2 c3 c4 c5 c6 c7 c8 c9
          go_wp2_with fail
          refine (HSZ1.out _ _ (HP.out.below HB2.out (Nat.le_refl _)) HX2.out).mono ?_
          rintro e w3 ⟨rfl, hB⟩
          have HB3 := Lib.hid (HB2.out.trans (hB.mono HB2.out.size))
          have HR := Lib.hid (hp_below HR.out hB (hp_lt HR.out))
          have HBx := Lib.hid (hp_below HBx.out hB (hp_lt HBx.out))
          have HNb := Lib.hid (hp_below HNb.out hB (hp_lt HNb.out))
          have HX2 := Lib.hid (HX2.out.below hB (Nat.le_refl _))
          clear hB
          go_wp2_with fail
          go_roundw
          case rel => exact ⟨k + 1, by omega, by go_num, by rw [HO.out] <;> rfl, by rw [HO.out] <;> rfl, HR.out, by rw [HO.out]; exact HBx.out, HB3.out⟩
          case measure => simp [intOf]; omega
        · rw [dmT_less hle] at HTK1
          generalize szP ps x = sz at *
          have hd : decide (s ≤ sz) = false := decide_eq_false hle
          clear hle
          rw [show bsW (some (y, s)) = s from rfl, show (some (y, s)).isSome = true from rfl]
          cases hgd : gdB ps ts (pE x) with
          | false =>
            have HO := Lib.hid (show dmX ps ts (zs.take (k + 1)) = some (y, s) by rw [HTK1.out, hgd]; rfl)
            rw [hgd] at HG1
            clear hgd HTK1
            go_wp2_with fail
            refine (HS1.out _).mono ?_
            rintro e w2 ⟨g2, rfl, hx2, hB⟩
            have HB2 := Lib.hid (HBn.out.trans (hB.mono HBn.out.size))
            have HR := Lib.hid (hp_below HRn.out hB (hp_lt HRn.out))
            have HBx := Lib.hid (hp_below HBxn.out hB (hp_lt HBxn.out))
            have HNb := Lib.hid (hp_below HNn.out hB (hp_lt HNn.out))
            have HX2 := Lib.hid hx2
            clear hB hx2 c0 c1 c2 c3 c4 c5 c6 c7 c8 c9
            go_wp2_with fail
            refine (HSZ1.out _ _ (HP.out.below HB2.out (Nat.le_refl _)) HX2.out).mono ?_
            rintro e w3 ⟨rfl, hB⟩
            have HB3 := Lib.hid (HB2.out.trans (hB.mono HB2.out.size))
            have HR := Lib.hid (hp_below HR.out hB (hp_lt HR.out))
            have HBx := Lib.hid (hp_below HBx.out hB (hp_lt HBx.out))
            have HNb := Lib.hid (hp_below HNb.out hB (hp_lt HNb.out))
            have HX2 := Lib.hid (HX2.out.below hB (Nat.le_refl _))
            clear hB
            go_wp2_with fail
            refine (HG1.out _ _ (HP.out.below HB3.out (Nat.le_refl _)) HX2.out (HT.out.below HB3.out (Nat.le_refl _))).mono ?_
            rintro e w4 ⟨rfl, hB⟩
            have HB4 := Lib.hid (HB3.out.trans (hB.mono HB3.out.size))
            have HR := Lib.hid (hp_below HR.out hB (hp_lt HR.out))
            have HBx := Lib.hid (hp_below HBx.out hB (hp_lt HBx.out))
            have HNb := Lib.hid (hp_below HNb.out hB (hp_lt HNb.out))
            clear hB
            go_wp2_with fail
            go_roundw
            case rel => exact ⟨k + 1, by omega, by go_num, by rw [HO.out] <;> rfl, by rw [HO.out] <;> rfl, HR.out, by rw [HO.out]; exact HBx.out, HB4.out⟩
            case measure => simp [intOf]; omega
          | true =>
            have HO := Lib.hid (show dmX ps ts (zs.take (k + 1)) = some (x, sz) by rw [HTK1.out, hgd]; rfl)
            rw [hgd] at HG1
            clear hgd HTK1
            go_wp2_with fail
            refine (HS1.out _).mono ?_
            rintro e w2 ⟨g2, rfl, hx2, hB⟩
            have HB2 := Lib.hid (HBn.out.trans (hB.mono HBn.out.size))
            have HR := Lib.hid (hp_below HRn.out hB (hp_lt HRn.out))
            have HBx := Lib.hid (hp_below HBxn.out hB (hp_lt HBxn.out))
            have HNb := Lib.hid (hp_below HNn.out hB (hp_lt HNn.out))
            have HX2 := Lib.hid hx2
            clear hB hx2 c0 c1 c2 c3 c4 c5 c6 c7 c8 c9
            go_wp2_with fail
            refine (HSZ1.out _ _ (HP.out.below HB2.out (Nat.le_refl _)) HX2.out).mono ?_
            rintro e w3 ⟨rfl, hB⟩
            have HB3 := Lib.hid (HB2.out.trans (hB.mono HB2.out.size))
            have HR := Lib.hid (hp_below HR.out hB (hp_lt HR.out))
            have HBx := Lib.hid (hp_below HBx.out hB (hp_lt HBx.out))
            have HNb := Lib.hid (hp_below HNb.out hB (hp_lt HNb.out))
            have HX2 := Lib.hid (HX2.out.below hB (Nat.le_refl _))
            clear hB
            go_wp2_with fail
            refine (HG1.out _ _ (HP.out.below HB3.out (Nat.le_refl _)) HX2.out (HT.out.below HB3.out (Nat.le_refl _))).mono ?_
            rintro e w4 ⟨rfl, hB⟩
            have HB4 := Lib.hid (HB3.out.trans (hB.mono HB3.out.size))
            have HR := Lib.hid (hp_below HR.out hB (hp_lt HR.out))
            have HBx := Lib.hid (hp_below HBx.out hB (hp_lt HBx.out))
            have HNb := Lib.hid (hp_below HNb.out hB (hp_lt HNb.out))
            clear hB
            have y0 := hp_cell HNb.out (j := 0) (by rfl)
            have y1 := hp_cell HNb.out (j := 1) (by rfl)
            have y2 := hp_cell HNb.out (j := 2) (by rfl)
            have y3 := hp_cell HNb.out (j := 3) (by rfl)
            have y4 := hp_cell HNb.out (j := 4) (by rfl)
            have y5 := hp_cell HNb.out (j := 5) (by rfl)
            have y6 := hp_cell HNb.out (j := 6) (by rfl)
            have y7 := hp_cell HNb.out (j := 7) (by rfl)
            have y8 := hp_cell HNb.out (j := 8) (by rfl)
            have y9 := hp_cell HNb.out (j := 9) (by rfl)
            have z0 := hp_cell HBx.out (j := 0) (by rfl)
            have z1 := hp_cell HBx.out (j := 1) (by rfl)
            have z2 := hp_cell HBx.out (j := 2) (by rfl)
            have z3 := hp_cell HBx.out (j := 3) (by rfl)
            have z4 := hp_cell HBx.out (j := 4) (by rfl)
            have z5 := hp_cell HBx.out (j := 5) (by rfl)
            have z6 := hp_cell HBx.out (j := 6) (by rfl)
            have z7 := hp_cell HBx.out (j := 7) (by rfl)
            have z8 := hp_cell HBx.out (j := 8) (by rfl)
            have z9 := hp_cell HBx.out (j := 9) (by rfl)
            have f0 := hp_free HBx.out 0
            have f1 := hp_free HBx.out 1
            have f2 := hp_free HBx.out 2
            have f3 := hp_free HBx.out 3
            have f4 := hp_free HBx.out 4
            have f5 := hp_free HBx.out 5
            have f6 := hp_free HBx.out 6
            have f7 := hp_free HBx.out 7
            have f8 := hp_free HBx.out 8
            have f9 := hp_free HBx.out 9
            have HR9 := Lib.hid (show ((((((((((w4.setCell ⟨(w.heap.size + 1), 0, none⟩ (.int .i64 x.1.at_)).setCell ⟨(w.heap.size + 1), 1, none⟩ (.int .i64 x.1.ln.op)).setCell ⟨(w.heap.size + 1), 2, none⟩ (.int .i64 x.1.ln.to)).setCell ⟨(w.heap.size + 1), 3, none⟩ (.int .i64 x.1.ln.a)).setCell ⟨(w.heap.size + 1), 4, none⟩ (.int .i64 x.1.ln.b)).setCell ⟨(w.heap.size + 1), 5, none⟩ (.int .i64 x.2.at_)).setCell ⟨(w.heap.size + 1), 6, none⟩ (.int .i64 x.2.ln.op)).setCell ⟨(w.heap.size + 1), 7, none⟩ (.int .i64 x.2.ln.to)).setCell ⟨(w.heap.size + 1), 8, none⟩ (.int .i64 x.2.ln.a)).setCell ⟨(w.heap.size + 1), 9, none⟩ (.int .i64 x.2.ln.b)).heap[w.heap.size]? = some (.cells #[.int .i64 0, .int .i64 0, .int .i64 0, .int .i64 0, .int .i64 0, .int .i64 0, .int .i64 0, .int .i64 0, .int .i64 0, .int .i64 0] 69 (0, 0)) from set10 _ _ _ _ _ _ _ _ _ _ HR.out (Nat.ne_of_lt (Nat.lt_succ_self _)))
            have HF := Lib.hid (show ((((((((((w4.setCell ⟨(w.heap.size + 1), 0, none⟩ (.int .i64 x.1.at_)).setCell ⟨(w.heap.size + 1), 1, none⟩ (.int .i64 x.1.ln.op)).setCell ⟨(w.heap.size + 1), 2, none⟩ (.int .i64 x.1.ln.to)).setCell ⟨(w.heap.size + 1), 3, none⟩ (.int .i64 x.1.ln.a)).setCell ⟨(w.heap.size + 1), 4, none⟩ (.int .i64 x.1.ln.b)).setCell ⟨(w.heap.size + 1), 5, none⟩ (.int .i64 x.2.at_)).setCell ⟨(w.heap.size + 1), 6, none⟩ (.int .i64 x.2.ln.op)).setCell ⟨(w.heap.size + 1), 7, none⟩ (.int .i64 x.2.ln.to)).setCell ⟨(w.heap.size + 1), 8, none⟩ (.int .i64 x.2.ln.a)).setCell ⟨(w.heap.size + 1), 9, none⟩ (.int .i64 x.2.ln.b)).heap[w.heap.size + 1]? = some (.cells #[.int .i64 x.1.at_, .int .i64 x.1.ln.op, .int .i64 x.1.ln.to, .int .i64 x.1.ln.a, .int .i64 x.1.ln.b, .int .i64 x.2.at_, .int .i64 x.2.ln.op, .int .i64 x.2.ln.to, .int .i64 x.2.ln.a, .int .i64 x.2.ln.b] 69 (0, 0)) from put10 _ _ _ _ _ _ _ _ _ _ HBx.out)
            have HBL := Lib.hid (show Below w.heap.size w ((((((((((w4.setCell ⟨(w.heap.size + 1), 0, none⟩ (.int .i64 x.1.at_)).setCell ⟨(w.heap.size + 1), 1, none⟩ (.int .i64 x.1.ln.op)).setCell ⟨(w.heap.size + 1), 2, none⟩ (.int .i64 x.1.ln.to)).setCell ⟨(w.heap.size + 1), 3, none⟩ (.int .i64 x.1.ln.a)).setCell ⟨(w.heap.size + 1), 4, none⟩ (.int .i64 x.1.ln.b)).setCell ⟨(w.heap.size + 1), 5, none⟩ (.int .i64 x.2.at_)).setCell ⟨(w.heap.size + 1), 6, none⟩ (.int .i64 x.2.ln.op)).setCell ⟨(w.heap.size + 1), 7, none⟩ (.int .i64 x.2.ln.to)).setCell ⟨(w.heap.size + 1), 8, none⟩ (.int .i64 x.2.ln.a)).setCell ⟨(w.heap.size + 1), 9, none⟩ (.int .i64 x.2.ln.b)) from bel10 _ _ _ _ _ _ _ _ _ _ HB4.out (Nat.le_succ _))
            go_wp2_with fail
            go_roundw
            case rel => exact ⟨k + 1, by omega, by go_num, by rw [HO.out] <;> rfl, by rw [HO.out] <;> rfl, HR9.out, by rw [HO.out]; exact HF.out, HBL.out⟩
            case measure => simp [intOf]; omega
    · have hlt1 : decide ((k : Int) < (zs.length : Int)) = false := decide_eq_false (by omega)
      rw [HEND.out k hlt] at HBx ⊢
      obtain ⟨bb, hbb⟩ : ∃ bb, bb = bsZ (dmX ps ts zs) := ⟨_, rfl⟩
      obtain ⟨bo, hbo⟩ : ∃ bo, bo = (dmX ps ts zs).isSome := ⟨_, rfl⟩
      rw [← hbb] at HBx
      rw [← hbo]
      have HBB := Lib.hid hbb
      have HBO := Lib.hid hbo
      unfold zV at HBx
      clear hbb hbo
      have y0 := hp_cell HBx.out (j := 0) (by rfl)
      have y1 := hp_cell HBx.out (j := 1) (by rfl)
      have y2 := hp_cell HBx.out (j := 2) (by rfl)
      have y3 := hp_cell HBx.out (j := 3) (by rfl)
      have y4 := hp_cell HBx.out (j := 4) (by rfl)
      have y5 := hp_cell HBx.out (j := 5) (by rfl)
      have y6 := hp_cell HBx.out (j := 6) (by rfl)
      have y7 := hp_cell HBx.out (j := 7) (by rfl)
      have y8 := hp_cell HBx.out (j := 8) (by rfl)
      have y9 := hp_cell HBx.out (j := 9) (by rfl)
      have z0 := hp_cell HR.out (j := 0) (by rfl)
      have z1 := hp_cell HR.out (j := 1) (by rfl)
      have z2 := hp_cell HR.out (j := 2) (by rfl)
      have z3 := hp_cell HR.out (j := 3) (by rfl)
      have z4 := hp_cell HR.out (j := 4) (by rfl)
      have z5 := hp_cell HR.out (j := 5) (by rfl)
      have z6 := hp_cell HR.out (j := 6) (by rfl)
      have z7 := hp_cell HR.out (j := 7) (by rfl)
      have z8 := hp_cell HR.out (j := 8) (by rfl)
      have z9 := hp_cell HR.out (j := 9) (by rfl)
      have f0 := hp_free HR.out 0
      have f1 := hp_free HR.out 1
      have f2 := hp_free HR.out 2
      have f3 := hp_free HR.out 3
      have f4 := hp_free HR.out 4
      have f5 := hp_free HR.out 5
      have f6 := hp_free HR.out 6
      have f7 := hp_free HR.out 7
      have f8 := hp_free HR.out 8
      have f9 := hp_free HR.out 9
      have HF := Lib.hid (show ((((((((((wr.setCell ⟨w.heap.size, 0, none⟩ (.int .i64 bb.1.at_)).setCell ⟨w.heap.size, 1, none⟩ (.int .i64 bb.1.ln.op)).setCell ⟨w.heap.size, 2, none⟩ (.int .i64 bb.1.ln.to)).setCell ⟨w.heap.size, 3, none⟩ (.int .i64 bb.1.ln.a)).setCell ⟨w.heap.size, 4, none⟩ (.int .i64 bb.1.ln.b)).setCell ⟨w.heap.size, 5, none⟩ (.int .i64 bb.2.at_)).setCell ⟨w.heap.size, 6, none⟩ (.int .i64 bb.2.ln.op)).setCell ⟨w.heap.size, 7, none⟩ (.int .i64 bb.2.ln.to)).setCell ⟨w.heap.size, 8, none⟩ (.int .i64 bb.2.ln.a)).setCell ⟨w.heap.size, 9, none⟩ (.int .i64 bb.2.ln.b)).heap[w.heap.size]? = some (.cells #[.int .i64 bb.1.at_, .int .i64 bb.1.ln.op, .int .i64 bb.1.ln.to, .int .i64 bb.1.ln.a, .int .i64 bb.1.ln.b, .int .i64 bb.2.at_, .int .i64 bb.2.ln.op, .int .i64 bb.2.ln.to, .int .i64 bb.2.ln.a, .int .i64 bb.2.ln.b] 69 (0, 0)) from put10 _ _ _ _ _ _ _ _ _ _ HR.out)
      have HBL := Lib.hid (show Below w.heap.size w ((((((((((wr.setCell ⟨w.heap.size, 0, none⟩ (.int .i64 bb.1.at_)).setCell ⟨w.heap.size, 1, none⟩ (.int .i64 bb.1.ln.op)).setCell ⟨w.heap.size, 2, none⟩ (.int .i64 bb.1.ln.to)).setCell ⟨w.heap.size, 3, none⟩ (.int .i64 bb.1.ln.a)).setCell ⟨w.heap.size, 4, none⟩ (.int .i64 bb.1.ln.b)).setCell ⟨w.heap.size, 5, none⟩ (.int .i64 bb.2.at_)).setCell ⟨w.heap.size, 6, none⟩ (.int .i64 bb.2.ln.op)).setCell ⟨w.heap.size, 7, none⟩ (.int .i64 bb.2.ln.to)).setCell ⟨w.heap.size, 8, none⟩ (.int .i64 bb.2.ln.a)).setCell ⟨w.heap.size, 9, none⟩ (.int .i64 bb.2.ln.b)) from bel10 _ _ _ _ _ _ _ _ _ _ HB.out (Nat.le_refl _))
      go_wp2_with fail
      refine bodyPost_ret (v := .tuple #[.agg #[.int .i64 bb.1.at_, .int .i64 bb.1.ln.op, .int .i64 bb.1.ln.to, .int .i64 bb.1.ln.a, .int .i64 bb.1.ln.b, .int .i64 bb.2.at_, .int .i64 bb.2.ln.op, .int .i64 bb.2.ln.to, .int .i64 bb.2.ln.a, .int .i64 bb.2.ln.b], .bool bo]) ?_ rfl ⟨by rw [← HBB.out, ← HBO.out]; rfl, HBL.out⟩
      exact results_row_tmp (p := 8) (ty := 69) rfl _ _ w.heap.size 69 _ (0, 0) (by rfl) HF.out Tryz.underlying69 size_pair rfl

end Go.Proofs.YtfclfmloceddfaaGreat

/- Plain mathematics: the document's order of pairs is that of prL. -/
set_option linter.unusedVariables false
set_option linter.unusedSimpArgs false
namespace Go.Proofs.YtfclfmloceddfaaGreat
open Go.RowKit Go.Shelf Tinker

/-- The edits of the places below m are those of the places below k and those of the others. -/
theorem edK_split (ps : List L) (n : Int) (k : Nat) : ∀ d, ∃ s, edK ps n (k + d) = edK ps n k ++ s ∧ ∀ y ∈ s, (k : Int) ≤ y.at_
  | 0 => ⟨[], by simp, by simp⟩
  | d + 1 => by
    obtain ⟨s, h1, h2⟩ := edK_split ps n k d
    refine ⟨s ++ (cndL ps (k + d) n).map (fun m => (⟨((k + d : Nat) : Int), m⟩ : E)), ?_, ?_⟩
    · rw [show k + (d + 1) = k + d + 1 by omega, edK_succ, h1, List.append_assoc]
    · intro y hy
      rw [List.mem_append] at hy
      rcases hy with hy | hy
      · exact h2 y hy
      · rw [List.mem_map] at hy
        obtain ⟨m, _, rfl⟩ := hy
        show (k : Int) ≤ ((k + d : Nat) : Int)
        omega
/-- What follows the edits of the places below k. -/
def edT (ps : List L) (k m : Nat) : List E := (edK ps 0 m).drop (edK ps 0 k).length
theorem edT_self (ps : List L) (k : Nat) : edT ps k k = [] := by unfold edT; simp
theorem edT_succ (ps : List L) {k m : Nat} (h : k ≤ m) : edT ps k (m + 1) = edT ps k m ++ (cndL ps m 0).map (fun l => (⟨(m : Int), l⟩ : E)) := by
  obtain ⟨s, h1, _⟩ := edK_split ps 0 k (m - k)
  rw [show k + (m - k) = m by omega] at h1
  unfold edT
  rw [edK_succ, List.drop_append_of_le_length]
  rw [h1, List.length_append]
  omega
theorem prX_append (x : E) (ys zs : List E) : prX x (ys ++ zs) = prX x ys ++ prX x zs := by unfold prX; rw [List.filter_append, List.map_append]
theorem prX_none {x : E} {ys : List E} (h : ∀ y ∈ ys, y.at_ ≤ x.at_) : prX x ys = [] := by
  unfold prX
  rw [List.filter_eq_nil_iff.2, List.map_nil]
  intro y hy hd
  have := h y hy
  have := of_decide_eq_true hd
  omega
theorem prX_all {x : E} {ys : List E} (h : ∀ y ∈ ys, x.at_ < y.at_) : prX x ys = ys.map fun y => (x, y) := by
  unfold prX
  rw [List.filter_eq_self.2]
  intro y hy
  exact decide_eq_true (h y hy)
/-- One edit more at place k: its pairs are those with the edits of the places behind k. -/
theorem pr_step {ps : List L} {k j : Nat} {m : L} (hk : k < ps.length) (hm : (cndL ps k 0)[j]? = some m) :
    prK (edL ps 0) ((edK ps 0 k).length + j + 1) = prK (edL ps 0) ((edK ps 0 k).length + j) ++ prX ⟨(k : Int), m⟩ (edT ps (k + 1) ps.length) := by
  obtain ⟨s, h1, h2⟩ := edK_split ps 0 (k + 1) (ps.length - (k + 1))
  rw [show k + 1 + (ps.length - (k + 1)) = ps.length by omega] at h1
  have hj : j < (cndL ps k 0).length := (List.getElem?_eq_some_iff.1 hm).1
  have hx : edL ps 0 = edK ps 0 k ++ ((cndL ps k 0).map (fun l => (⟨(k : Int), l⟩ : E)) ++ s) := by
    unfold edL
    rw [h1, edK_succ, List.append_assoc]
  have hT : edT ps (k + 1) ps.length = s := by
    unfold edT
    rw [h1]
    simp
  have hg : (edL ps 0)[(edK ps 0 k).length + j]? = some ⟨(k : Int), m⟩ := by
    rw [hx, List.getElem?_append_right (Nat.le_add_right _ _), Nat.add_sub_cancel_left, List.getElem?_append_left (by rw [List.length_map]; exact hj), List.getElem?_map, hm]
    rfl
  rw [prK_succ hg, hT]
  congr 1
  have hd : (edL ps 0).drop ((edK ps 0 k).length + j + 1) = ((cndL ps k 0).map (fun l => (⟨(k : Int), l⟩ : E))).drop (j + 1) ++ s := by
    rw [hx, Nat.add_assoc, List.drop_append, List.drop_of_length_le (by omega), List.nil_append, Nat.add_sub_cancel_left, List.drop_append_of_le_length (by rw [List.length_map]; omega)]
  rw [hd, prX_append, prX_none, List.nil_append]
  intro y hy
  have hy := List.mem_of_mem_drop hy
  rw [List.mem_map] at hy
  obtain ⟨l, _, rfl⟩ := hy
  exact Int.le_refl _
/-- All edits of the places from k + 1 lie behind one of place k. -/
theorem edT_behind {ps : List L} {k m : Nat} (h : k + 1 ≤ m) {y : E} (hy : y ∈ edT ps (k + 1) m) : (k : Int) < y.at_ := by
  obtain ⟨s, h1, h2⟩ := edK_split ps 0 (k + 1) (m - (k + 1))
  rw [show k + 1 + (m - (k + 1)) = m by omega] at h1
  unfold edT at hy
  rw [h1] at hy
  have := h2 y (by simpa using hy)
  omega
/-- The next pair in the document's order. -/
theorem pr_next {ps : List L} {k m q : Nat} {x l : L} (h : k + 1 ≤ m) (hl : (cndL ps m 0)[q]? = some l) :
    prX (⟨(k : Int), x⟩ : E) (edT ps (k + 1) m ++ ((cndL ps m 0).take (q + 1)).map (fun l => (⟨(m : Int), l⟩ : E))) = prX (⟨(k : Int), x⟩ : E) (edT ps (k + 1) m ++ ((cndL ps m 0).take q).map (fun l => (⟨(m : Int), l⟩ : E))) ++ [((⟨(k : Int), x⟩ : E), (⟨(m : Int), l⟩ : E))] := by
  rw [take_snoc hl, List.map_append, ← List.append_assoc, prX_append]
  congr 1
  refine (prX_all ?_).trans rfl
  intro y hy
  have hy : y = ⟨(m : Int), l⟩ := by simpa using hy
  subst hy
  show (k : Int) < (m : Int)
  omega

end Go.Proofs.YtfclfmloceddfaaGreat
