/- Several texts in one. -/
import Derived.Test.YtfclfmloceddfaaGreatFcA
import Derived.Test.YtfclfmloceddfaaGreatPtD
import Derived.Test.YtfclfmloceddfaaGreatPtZ
/- Plain mathematics: the edits with candidates at all places; the smallest good one. -/
set_option linter.unusedVariables false
set_option linter.unusedSimpArgs false
namespace Go.Proofs.YtfclfmloceddfaaGreat
open Go.RowKit Go.Shelf Tinker

/-- The edits with candidates at the first places, and at all. -/
def edK (ps : List L) (n : Int) (k : Nat) : List E := (List.range k).flatMap fun i => (cndL ps i n).map fun m => (⟨(i : Int), m⟩ : E)
def edL (ps : List L) (n : Int) : List E := edK ps n ps.length
theorem edK_succ (ps : List L) (n : Int) (k : Nat) : edK ps n (k + 1) = edK ps n k ++ (cndL ps k n).map fun m => (⟨(k : Int), m⟩ : E) := by
  unfold edK
  rw [List.range_succ, List.flatMap_append]
  simp
theorem edK_len (ps : List L) (n : Int) : ∀ k, (edK ps n k).length ≤ 1000 * k
  | 0 => by simp [edK]
  | k + 1 => by
    rw [edK_succ, List.length_append, List.length_map]
    have := edK_len ps n k
    have := cnd_len9 ps k n
    omega
theorem edK_mem {ps : List L} {n : Int} {k : Nat} {e : E} : e ∈ edK ps n k ↔ ∃ i m, i < k ∧ m ∈ cndL ps i n ∧ e = ⟨(i : Int), m⟩ := by
  unfold edK
  rw [List.mem_flatMap]
  constructor
  · rintro ⟨i, hi, h⟩
    obtain ⟨m, hm, rfl⟩ := List.mem_map.1 h
    exact ⟨i, m, List.mem_range.1 hi, hm, rfl⟩
  · rintro ⟨i, m, hi, hm, rfl⟩
    exact ⟨i, List.mem_range.2 hi, List.mem_map.2 ⟨m, hm, rfl⟩⟩
theorem edL_ok {ps : List L} {n : Int} {e : E} (hv : vp ps = 0) (h : e ∈ edL ps n) : vpx ps [e] 0 = 0 := by
  obtain ⟨i, m, hi, hm, rfl⟩ := edK_mem.1 h
  exact vpx_one hv hi (cnd_ln hm)
theorem edL_sub {ps : List L} {n : Int} {e : E} (h : e ∈ edL ps n) : e ∈ edL ps 2 := by
  obtain ⟨i, m, hi, hm, rfl⟩ := edK_mem.1 h
  exact edK_mem.2 ⟨i, m, hi, (cnd_sub ps i n).subset hm, rfl⟩
/-- How many fields an edit changes; the smallest good edit so far. -/
def szE (ps : List L) (e : E) : Int := dsN e.ln (lnD ps e.at_.toNat)
def smT (ps : List L) (ts : List T) (o : Option (E × Int)) (x : E) : Option (E × Int) :=
  match o with
  | none => if gdB ps ts [x] = true then some (x, szE ps x) else none
  | some y => if y.2 ≤ szE ps x then some y else if gdB ps ts [x] = true then some (x, szE ps x) else some y
def smX (ps : List L) (ts : List T) (xs : List E) : Option (E × Int) := xs.foldl (smT ps ts) none
theorem smX_nil (ps : List L) (ts : List T) : smX ps ts [] = none := rfl
theorem smX_snoc (ps : List L) (ts : List T) (xs : List E) (x : E) : smX ps ts (xs ++ [x]) = smT ps ts (smX ps ts xs) x := by unfold smX; rw [List.foldl_append]; rfl
theorem smX_take {ps : List L} {ts : List T} {xs : List E} {k : Nat} {x : E} (h : xs[k]? = some x) : smX ps ts (xs.take (k + 1)) = smT ps ts (smX ps ts (xs.take k)) x := by rw [take_snoc h, smX_snoc]
theorem smT_none {ps : List L} {ts : List T} {x : E} : smT ps ts none x = if gdB ps ts [x] = true then some (x, szE ps x) else none := rfl
theorem smT_skip {ps : List L} {ts : List T} {x y : E} {s : Int} (h : s ≤ szE ps x) : smT ps ts (some (y, s)) x = some (y, s) := by unfold smT; exact if_pos h
theorem smT_less {ps : List L} {ts : List T} {x y : E} {s : Int} (h : ¬ s ≤ szE ps x) : smT ps ts (some (y, s)) x = if gdB ps ts [x] = true then some (x, szE ps x) else some (y, s) := by unfold smT; exact if_neg h
/-- What is known of it: it is good, of its size, and none of those good is smaller; there is one if there is any good one. -/
theorem smX_inv (ps : List L) (ts : List T) (xs : List E) : (smX ps ts xs = none → ∀ x ∈ xs, gdB ps ts [x] = false) ∧ (∀ y s, smX ps ts xs = some (y, s) → y ∈ xs ∧ gdB ps ts [y] = true ∧ s = szE ps y ∧ ∀ x ∈ xs, gdB ps ts [x] = true → s ≤ szE ps x) := by
  suffices H : ∀ k, k ≤ xs.length → (smX ps ts (xs.take k) = none → ∀ x ∈ xs.take k, gdB ps ts [x] = false) ∧ (∀ y s, smX ps ts (xs.take k) = some (y, s) → y ∈ xs.take k ∧ gdB ps ts [y] = true ∧ s = szE ps y ∧ ∀ x ∈ xs.take k, gdB ps ts [x] = true → s ≤ szE ps x) by
    have := H xs.length (Nat.le_refl _)
    rwa [List.take_length] at this
  intro k
  induction k with
  | zero => intro _; simp [smX]
  | succ k ih =>
    intro hk
    obtain ⟨i1, i2⟩ := ih (by omega)
    obtain ⟨x, hx⟩ := get_of_lt (show k < xs.length by omega)
    rw [smX_take hx, take_snoc hx]
    have mem : ∀ z, z ∈ xs.take k ++ [x] ↔ z ∈ xs.take k ∨ z = x := fun z => by simp
    cases hq : smX ps ts (xs.take k) with
    | none =>
      rw [smT_none]
      have i1 := i1 hq
      by_cases hg : gdB ps ts [x] = true
      · rw [if_pos hg]
        refine ⟨fun h => (by cases h), fun y s h => ?_⟩
        injection h with h
        injection h with h1 h2
        subst h1 h2
        refine ⟨(mem _).2 (.inr rfl), hg, rfl, fun z hz hgz => ?_⟩
        rcases (mem _).1 hz with hz | rfl
        · rw [i1 z hz] at hgz; cases hgz
        · exact Int.le_refl _
      · rw [if_neg hg]
        refine ⟨fun _ z hz => ?_, fun y s h => (by cases h)⟩
        rcases (mem _).1 hz with hz | rfl
        · exact i1 z hz
        · simpa using hg
    | some o =>
      obtain ⟨y, s⟩ := o
      obtain ⟨a1, a2, a3, a4⟩ := i2 y s hq
      by_cases hle : s ≤ szE ps x
      · rw [smT_skip hle]
        refine ⟨fun h => (by cases h), fun y' s' h => ?_⟩
        injection h with h
        injection h with h1 h2
        subst h1 h2
        refine ⟨(mem _).2 (.inl a1), a2, a3, fun z hz hgz => ?_⟩
        rcases (mem _).1 hz with hz | rfl
        · exact a4 z hz hgz
        · exact hle
      · rw [smT_less hle]
        by_cases hg : gdB ps ts [x] = true
        · rw [if_pos hg]
          refine ⟨fun h => (by cases h), fun y' s' h => ?_⟩
          injection h with h
          injection h with h1 h2
          subst h1 h2
          refine ⟨(mem _).2 (.inr rfl), hg, rfl, fun z hz hgz => ?_⟩
          rcases (mem _).1 hz with hz | rfl
          · have := a4 z hz hgz; omega
          · exact Int.le_refl _
        · rw [if_neg hg]
          refine ⟨fun h => (by cases h), fun y' s' h => ?_⟩
          injection h with h
          injection h with h1 h2
          subst h1 h2
          refine ⟨(mem _).2 (.inl a1), a2, a3, fun z hz hgz => ?_⟩
          rcases (mem _).1 hz with hz | rfl
          · exact a4 z hz hgz
          · exact absurd hgz hg
/-- What the smallest is, whether there is one, and its size. -/
def eZ : E := ⟨0, ⟨0, 0, 0, 0⟩⟩
def bsE (o : Option (E × Int)) : E := match o with | none => eZ | some y => y.1
def bsS (z : Int) (o : Option (E × Int)) : Int := match o with | none => z | some y => y.2

end Go.Proofs.YtfclfmloceddfaaGreat

/- edits, the closure of single: contracts. -/
set_option linter.unusedVariables false
set_option linter.unusedSimpArgs false
namespace Go.Proofs.YtfclfmloceddfaaGreat
open Go.RowKit Go.Shelf Tinker

theorem own_ne5 {W : World} {b1 b2 n1 n2 k1 k2 : Nat} {e1 e2 : TypeId} {v1 v2 : Value} {x1 x2 : List Value} (h1 : W.ownsRow b1 e1 k1 v1 n1 x1) (h2 : W.ownsRow b2 e2 k2 v2 n2 x2) (he : e1 ≠ e2) : v2.ownBlock = none ∨ v2.ownBlock ≠ v1.ownBlock := by
  rcases h2.2 with ⟨rfl, _⟩ | ⟨g2, c2, cur2, rfl, _, hg2, _⟩
  · exact .inl rfl
  · rcases h1.2 with ⟨rfl, _⟩ | ⟨g1, c1, cur1, rfl, _, hg1, _⟩
    · exact .inr (by simp [Value.ownBlock])
    · refine .inr fun h => ?_
      have e : g2 = g1 := by simpa [Value.ownBlock] using h
      subst e
      rw [hg1] at hg2
      injection hg2 with h3
      injection h3 with _ h4
      exact he h4
theorem edits_snoc {w W1 : World} {v' : Value} {ls : List E} {n : Nat} {l : E} (h : W1.ownsRow w.heap.size 49 5 v' (n + 1) (ec ls ++ ec [l])) : W1.ownsRow w.heap.size 49 5 v' (n + 1) (ec (ls ++ [l])) := by
  rw [ec_append]; exact h
theorem map_take_E {Z : List L} {f : L → E} {j : Nat} {x : L} (h : Z[j]? = some x) : (Z.take (j + 1)).map f = (Z.take j).map f ++ [f x] := by rw [take_snoc h, List.map_append]; rfl

set_option maxRecDepth 100000 in
set_option maxHeartbeats 4000000 in
theorem sedits_any (a : Option Addr) (ca : Nat) (ps : List L) (n : Int) (w : World) (hp : LinesAt w a ps) (hv : vp ps = 0) (h0 : 0 ≤ n) (h2 : n ≤ 2) :
    Calls Tryz.prog 35 #[.slice a ps.length ca, srcV n] w (GivesEdits (edL ps n) w) := by
  obtain ⟨i0, hI, hz0, hz1, hz2⟩ := info_parts info_edit
  obtain ⟨h8, _⟩ := vp_ok hv
  have HC := Lib.hid (fun i w h9 (hi : i < ps.length) => candidates_any a ca ps i n w h9 hv hi h0 h2)
  have HP := Lib.hid hp
  have HS := Lib.hid (edK_succ ps n)
  have HL := Lib.hid (edK_len ps n)
  have HCL := Lib.hid (fun i => cnd_len9 ps i n)
  have HZ := Lib.hid (show edK ps n 0 = [] from rfl)
  unfold edL
  generalize edK ps n = ed at *
  generalize srcV n = v at *
  clear hv h0 h2 hp
  go_enter Tryz.func35, Tryz.ntmps35
  go_wp2_with fail
  go_loopw [5, 11] (fun s5 s11 wr => ∃ k : Nat, k ≤ ps.length ∧ s11 = .int .i64 (k : Int) ∧ wr.ownsRow w.heap.size 49 5 s5 (ed k).length (ec (ed k)) ∧ Below w.heap.size w wr) (fun _ s11 _ => ps.length - (intOf s11).toNat)
  case atStart => exact ⟨0, Nat.zero_le _, rfl, by rw [HZ.out]; exact World.ownsRow_nil _ _ _ _, Below.refl _ _⟩
  case round =>
    obtain ⟨k, hk, rfl, hO, hB⟩ := hrel
    have HO := Lib.hid hO
    have HB := Lib.hid hB
    clear hO hB
    by_cases hlt : k < ps.length
    · have hlt1 : decide ((k : Int) < (ps.length : Int)) = true := decide_eq_true (by omega)
      have HC1 := Lib.hid (fun w h9 => HC.out k w h9 hlt)
      have HS1 := Lib.hid (HS.out k)
      have hl1 := HL.out k
      have hl2 := HCL.out k
      generalize cndL ps k n = Z at *
      generalize ed k = LS at *
      obtain ⟨va, vc, rfl⟩ := own_slice HO.out
      go_wp2_with fail
      refine (HC1.out _ (HP.out.below HB.out (Nat.le_refl _))).mono ?_
      rintro e w1 ⟨a1, k1, rfl, hq, hB⟩
      have HO := Lib.hid (own_below HO.out hB (Nat.le_refl _))
      have HB1 := Lib.hid (HB.out.trans (hB.mono HB.out.size))
      have HT := Lib.hid (lines_of_own hq).1
      have HTO := Lib.hid hq
      clear hq hB
      obtain ⟨wo, hwo⟩ : ∃ W, W = w1 := ⟨_, rfl⟩
      go_wp2_with fail
      go_loopw [5, 19] (fun s5 s19 wx => ∃ j : Nat, j ≤ Z.length ∧ s19 = .int .i64 (j : Int) ∧ wx.ownsRow w.heap.size 49 5 s5 (LS ++ (Z.take j).map fun m => (⟨(k : Int), m⟩ : E)).length (ec (LS ++ (Z.take j).map fun m => (⟨(k : Int), m⟩ : E))) ∧ wx.ownsRow w.heap.size 42 4 (.slice a1 Z.length k1) Z.length (lc Z) ∧ Below w.heap.size w wx) (fun _ s19 _ => Z.length - (intOf s19).toNat)
      case atStart => exact ⟨0, Nat.zero_le _, rfl, by rw [List.take_zero, List.map_nil, List.append_nil]; exact HO.out, own_mono HTO.out HB.out.size, HB1.out⟩
      case round =>
        clear HO HTO HT HB1
        obtain ⟨j, hj, rfl, hO, hT, hB⟩ := hrel
        have HO := Lib.hid hO
        have HT := Lib.hid hT
        have HB := Lib.hid hB
        clear hO hT hB
        by_cases hlj : j < Z.length
        · have hlj1 : decide ((j : Int) < (Z.length : Int)) = true := decide_eq_true (by omega)
          obtain ⟨tb, toff, x, rfl, htl, hx, d0, d1, d2, d3⟩ := (lines_of_own HT.out).1.at_ hlj
          have HN := Lib.hid (show LS ++ (Z.take (j + 1)).map (fun m => (⟨(k : Int), m⟩ : E)) = (LS ++ (Z.take j).map fun m => (⟨(k : Int), m⟩ : E)) ++ [⟨(k : Int), x⟩] by rw [map_take_E hx, List.append_assoc])
          have hll : (LS ++ (Z.take j).map fun m => (⟨(k : Int), m⟩ : E)).length ≤ 100000 := by rw [List.length_append, List.length_map, List.length_take]; omega
          generalize (LS ++ (Z.take j).map fun m => (⟨(k : Int), m⟩ : E)) = LS2 at *
          clear hx
          obtain ⟨va, vc, rfl⟩ := own_slice HO.out
          have hal : Below wr.heap.size wr ((wr.alloc (.cells (lV x) 42)).alloc (.cells (eV ⟨(k : Int), x⟩) 49)) := ((Below.refl _ _).alloc (Nat.le_refl _) _).alloc (by simp) _
          have HO2 := Lib.hid (own_below HO.out hal (Nat.le_refl _))
          have HT2 := Lib.hid (own_below HT.out hal (Nat.le_refl _))
          have HB2 := Lib.hid (HB.out.trans (hal.mono HB.out.size))
          have HCN := Lib.hid (show ∀ j u, (ec [⟨(k : Int), x⟩])[j]? = some u → ((wr.alloc (.cells (lV x) 42)).alloc (.cells (eV ⟨(k : Int), x⟩) 49)).cell? ((⟨wr.heap.size + 1, 0, none⟩ : Addr).add j) = some u from fun j u h => by
            have h9 := cells_newE (wr.alloc (.cells (lV x) 42)) ⟨(k : Int), x⟩ j u h
            rwa [show (wr.alloc (.cells (lV x) 42)).heap.size = wr.heap.size + 1 by simp] at h9)
          unfold lV eV at HO2 HT2 HB2 HCN
          clear hal HO HT
          go_wp2_with (at_builtin; (refine wpList_append_own _ rfl (.tmp 23) (.tmp 27) 27 rfl w.heap.size 49 i0 (.agg #[.int .i64 0, .int .i64 0, .int .i64 0, .int .i64 0, .int .i64 0]) 5 40 Tryz.underlying27 hI hz0 hz1 hz2 rfl (by decide) (.slice va LS2.length vc) LS2.length (ec LS2) rfl HO2.out ⟨wr.heap.size + 1, 0, none⟩ 1 1 (ec [⟨(k : Int), x⟩]) rfl ?c1 ?c2 ?c3 ?c4 ?c5 ?c6 ?_))
          case c1 => rfl
          case c2 => first | exact HCN.out | exact fun j u h => h
          case c3 => exact ec_one _
          case c4 => simp [maxLen]; omega
          case c5 => omega
          case c6 => first | exact HB2.out.size | (have h9 := HB2.out.size; simp at h9; omega)
          intro v' w5 hown hgrow _
          have HB5 := Lib.hid (HB2.out.grown hgrow HB2.out.size (by rintro k hk; exact (HO2.out.lt k hk).1))
          have HO5 := Lib.hid (edits_snoc hown)
          have HT5 := Lib.hid (HT2.out.kept hgrow (own_ne5 HO2.out HT2.out (by decide)))
          clear hown hgrow
          go_wp2_with fail
          go_roundw
          case rel => exact ⟨j + 1, by omega, by go_num, by rw [HN.out, List.length_append]; exact HO5.out, HT5.out, HB5.out⟩
          case measure => simp [intOf]; omega
        · obtain rfl : j = Z.length := by omega
          have hlj1 : decide ((Z.length : Int) < (Z.length : Int)) = false := decide_eq_false (by omega)
          have hO := HO.out
          rw [List.take_length, ← HS1.out] at hO
          have HO := Lib.hid hO
          clear hO
          go_wp2_with fail
          go_roundw
          case rel => exact ⟨k + 1, by omega, by go_num, HO.out, HB.out⟩
          case measure => simp [intOf]; omega
    · obtain rfl : k = ps.length := by omega
      have hlt1 : decide ((ps.length : Int) < (ps.length : Int)) = false := decide_eq_false (by omega)
      go_wp2_with fail
      go_ret
      exact givesEdits_of rfl HO.out HB.out

end Go.Proofs.YtfclfmloceddfaaGreat

/- single$1, smallest of seek: contracts. -/
set_option linter.unusedVariables false
set_option linter.unusedSimpArgs false
namespace Go.Proofs.YtfclfmloceddfaaGreat
open Go.RowKit Go.Shelf Tinker

theorem results_cell_tmp5 {fn : Func} {p u : Tmp} {ty : TypeId} (h : fn.results = #[.cell p ty, .tmp u]) {P : Program} (tmps : Array Value) (w : World) (g : Nat) (t : TypeId) (cs : Array Value) (fr : Nat × Nat) {fs : Array Field}
    (hp : tmps.getD p undef = .pointer (some ⟨g, 0, none⟩)) (hg : w.heap[g]? = some (.cells cs t fr))
    (hu : P.underlying ty = some (.struct fs)) (hi : (P.info? ty).map (·.size) = some cs.size) {v : Value} (hv : tmps.getD u undef = v) :
    (results fn tmps).run P w = .ok (.tuple #[.agg cs, v]) w := by
  subst hv
  have hp' : tmps[p]?.getD undef = .pointer (some ⟨g, 0, none⟩) := by simpa using hp
  simp [results, h, hp', asAddr, run_loadVar_row w g t ty cs fr _ hg hu rfl hi]
theorem results_cell_tmp55 {fn : Func} {p u u2 : Tmp} {ty : TypeId} (h : fn.results = #[.cell p ty, .tmp u, .tmp u2]) {P : Program} (tmps : Array Value) (w : World) (g : Nat) (t : TypeId) (cs : Array Value) (fr : Nat × Nat) {fs : Array Field}
    (hp : tmps.getD p undef = .pointer (some ⟨g, 0, none⟩)) (hg : w.heap[g]? = some (.cells cs t fr))
    (hu : P.underlying ty = some (.struct fs)) (hi : (P.info? ty).map (·.size) = some cs.size) {v v2 : Value} (hv : tmps.getD u undef = v) (hv2 : tmps.getD u2 undef = v2) :
    (results fn tmps).run P w = .ok (.tuple #[.agg cs, v, v2]) w := by
  subst hv hv2
  have hp' : tmps[p]?.getD undef = .pointer (some ⟨g, 0, none⟩) := by simpa using hp
  simp [results, h, hp', asAddr, run_loadVar_row w g t ty cs fr _ hg hu rfl hi]
theorem size_ed5 : (Tryz.prog.info? 49).map (·.size) = some 5 := by kernel_rfl

set_option maxRecDepth 100000 in
set_option maxHeartbeats 1000000 in
theorem single1_any (x : E) (w : World) : Calls Tryz.prog 48 #[.agg (eV x)] w fun e w' => ∃ g, e = .returned (.slice (some ⟨g, 0, none⟩) 1 1) ∧ EditsAt w' (some ⟨g, 0, none⟩) [x] ∧ Below w.heap.size w w' := by
  obtain ⟨W0, hW0⟩ : ∃ W, W = w.alloc (.cells (eV x) 49) := ⟨_, rfl⟩
  have hb : Below w.heap.size w W0 := by rw [hW0]; exact (Below.refl _ _).alloc (Nat.le_refl _) _
  have hX : W0.heap[w.heap.size]? = some (.cells (eV x) 49 (0, 0)) := by rw [hW0]; exact hp_new rfl
  have hsz : W0.heap.size = w.heap.size + 1 := by rw [hW0]; simp
  have hE := edit_at W0 49 x
  rw [hsz] at hE
  have HE := Lib.hid hE
  have HB := Lib.hid (hb.alloc hb.size (.cells (eV x) 49))
  have x0 := hp_cell hX (j := 0) (by rfl)
  have x1 := hp_cell hX (j := 1) (by rfl)
  have x2 := hp_cell hX (j := 2) (by rfl)
  have x3 := hp_cell hX (j := 3) (by rfl)
  have x4 := hp_cell hX (j := 4) (by rfl)
  clear hb hX hsz hE
  unfold eV at hW0 HB ⊢
  go_enter Tryz.func48, Tryz.ntmps48
  rw [hW0] at x0 x1 x2 x3 x4
  go_wp2_with fail
  rw [← hW0]
  clear hW0 x0 x1 x2 x3 x4
  go_ret
  exact ⟨_, rfl, HE.out, HB.out⟩

set_option maxRecDepth 100000 in
set_option maxHeartbeats 8000000 in
theorem smallestE_any (a h : Option Addr) (ca ch : Nat) (ps : List L) (ts : List T) (g : Option Addr) (cg : Nat) (xs : List E) (w : World) (hp : LinesAt w a ps) (hts : TestsAt w h ts) (hx : EditsAt w g xs) (hok : ∀ x ∈ xs, vpx ps [x] 0 = 0) (ht : vts ts = 0) (hpl : ps.length ≤ 1000) (hxl : xs.length ≤ 100000) :
    Calls Tryz.prog 47 #[.slice a ps.length ca, .slice h ts.length ch, .slice g xs.length cg, .func (.func 48) #[] #[]] w fun e w' => e = .returned (.tuple #[.agg (eV (bsE (smX ps ts xs))), .bool (smX ps ts xs).isSome]) ∧ Below w.heap.size w w' := by
  obtain ⟨t8, hT⟩ := vts_ok ht
  have hml : ∀ t ∈ ts, t.inn.length ≤ 1000 := fun t h => by have := (vs_ok (isT_ok (hT t h)).1).1; omega
  have HS := Lib.hid (fun x w => single1_any x w)
  have HSZ := Lib.hid (fun x g w h1 h2 => pSize_any a g ca 1 ps [x] w h1 h2 (by simp) hpl)
  have HGD := Lib.hid (fun x g w h1 h2 h3 => pIsGood_any a g h ca 1 ch ps [x] ts w h1 h2 h3 (by simp) (by omega) hml hpl)
  simp only [List.length_cons, List.length_nil, Nat.zero_add] at HSZ HGD
  have HOK := Lib.hid hok
  have HV := Lib.hid ht
  have HP := Lib.hid hp
  have HT := Lib.hid hts
  have HXS := Lib.hid hx
  have HTK := Lib.hid (fun k x (h : xs[k]? = some x) => smX_take (ps := ps) (ts := ts) h)
  have HZ := Lib.hid (show smX ps ts (xs.take 0) = none from rfl)
  have HEND := Lib.hid (show ∀ k, ¬ k < xs.length → xs.take k = xs from fun k h => List.take_of_length_le (by omega))
  have HRS := Lib.hid (hp_new (w := w) (o := .cells #[.int .i64 0, .int .i64 0, .int .i64 0, .int .i64 0, .int .i64 0] 49 (0, 0)) rfl)
  have HB0 := Lib.hid (((Below.refl w.heap.size w).alloc (Nat.le_refl _) (.cells #[.int .i64 0, .int .i64 0, .int .i64 0, .int .i64 0, .int .i64 0] 49)).alloc (by simp) (.cells #[.int .i64 0, .int .i64 0, .int .i64 0, .int .i64 0, .int .i64 0] 49))
  clear hok ht hp hts hx hml hT
  go_enter Tryz.func47, Tryz.ntmps47
  go_wp2_with fail
  go_loopw [11, 12, 22] (fun s11 s12 s22 wr => ∃ k : Nat, k ≤ xs.length ∧ s22 = .int .i64 (k : Int) ∧ s11 = .int .i64 (bsS 0 (smX ps ts (xs.take k))) ∧ s12 = .bool (smX ps ts (xs.take k)).isSome ∧ wr.heap[w.heap.size]? = some (.cells #[.int .i64 0, .int .i64 0, .int .i64 0, .int .i64 0, .int .i64 0] 49 (0, 0)) ∧ wr.heap[w.heap.size + 1]? = some (.cells (eV (bsE (smX ps ts (xs.take k)))) 49 (0, 0)) ∧ Below w.heap.size w wr) (fun _ _ s22 _ => xs.length - (intOf s22).toNat)
  case atStart => exact ⟨0, Nat.zero_le _, rfl, rfl, rfl, hp_alloc HRS.out, hp_new (by simp), HB0.out⟩
  case round =>
    clear HB0 HRS
    obtain ⟨k, hk, rfl, rfl, rfl, hR, hBx, hB⟩ := hrel
    have HR := Lib.hid hR
    have HBx := Lib.hid hBx
    have HB := Lib.hid hB
    clear hR hBx hB
    by_cases hlt : k < xs.length
    · have hlt1 : decide ((k : Int) < (xs.length : Int)) = true := decide_eq_true (by omega)
      obtain ⟨b, off, x, rfl, hlb, hx, c0, c1, c2, c3, c4⟩ := (HXS.out.below HB.out (Nat.le_refl _)).at_ hlt
      have hvx := HOK.out x (mem_of_get hx)
      have HTK1 := Lib.hid (HTK.out k x hx)
      have HS1 := Lib.hid (fun w => HS.out x w)
      have HSZ1 := Lib.hid (fun g w h1 h2 => HSZ.out x g w h1 h2)
      have HG1 := Lib.hid (fun g w h1 h2 h3 => HGD.out x g w h1 h2 h3)
      have e1 : szR ps [x] = szE ps x := by
        unfold szR
        rw [if_pos hvx]
        show szL ps [x] = _
        rw [szL_cons]
        show szE ps x + szL ps [] = szE ps x
        simp [szL]
      have e2 : gdR ps [x] ts = gdB ps ts [x] := by unfold gdR; rw [HV.out, if_pos hvx]
      rw [e1, hvx] at HSZ1
      rw [e2, HV.out, hvx] at HG1
      have hbz := dsN_le x.ln (lnD ps x.at_.toNat)
      have hsz : szE ps x = dsN x.ln (lnD ps x.at_.toNat) := rfl
      have hal : Below wr.heap.size wr (wr.alloc (.cells (eV x) 49)) := (Below.refl _ _).alloc (Nat.le_refl _) _
      have HBn := Lib.hid (HB.out.trans (hal.mono HB.out.size))
      have HRn := Lib.hid (hp_below HR.out hal (hp_lt HR.out))
      have HBxn := Lib.hid (hp_below HBx.out hal (hp_lt HBx.out))
      have HNn := Lib.hid (show (wr.alloc (.cells (eV x) 49)).heap[wr.heap.size]? = some (.cells (eV x) 49 (0, 0)) from hp_new rfl)
      have hnb : w.heap.size + 1 < wr.heap.size := hp_lt HBx.out
      rw [← hsz] at hbz
      clear hx hal hvx e1 e2 HR HBx HTK HSZ HGD HS hsz
      generalize smX ps ts (xs.take k) = o at *
      unfold eV at HS1 HBn HRn HBxn HNn
      cases o with
      | none =>
        rw [smT_none] at HTK1
        generalize szE ps x = sz at *
        cases hgd : gdB ps ts [x] with
        | false =>
          have HO := Lib.hid (show smX ps ts (xs.take (k + 1)) = none by rw [HTK1.out, hgd]; rfl)
          rw [hgd] at HG1
          clear hgd HTK1
          go_wp2_with fail
          refine (HS1.out _).mono ?_
          rintro e w2 ⟨g2, rfl, hx2, hB⟩
          have HB2 := Lib.hid (HBn.out.trans (hB.mono HBn.out.size))
          have HR := Lib.hid (hp_below HRn.out hB (hp_lt HRn.out))
          have HBx := Lib.hid (hp_below HBxn.out hB (hp_lt HBxn.out))
          have HNb := Lib.hid (hp_below HNn.out hB (hp_lt HNn.out))
          have HX2 := Lib.hid hx2
          clear hB hx2 c0 c1 c2 c3 c4
          go_wp2_with fail
          refine (HSZ1.out _ _ (HP.out.below HB2.out (Nat.le_refl _)) HX2.out).mono ?_
          rintro e w3 ⟨rfl, hB⟩
          have HB3 := Lib.hid (HB2.out.trans (hB.mono HB2.out.size))
          have HR := Lib.hid (hp_below HR.out hB (hp_lt HR.out))
          have HBx := Lib.hid (hp_below HBx.out hB (hp_lt HBx.out))
          have HNb := Lib.hid (hp_below HNb.out hB (hp_lt HNb.out))
          have HX2 := Lib.hid (HX2.out.below hB (Nat.le_refl _))
          clear hB
          go_wp2_with fail
          refine (HG1.out _ _ (HP.out.below HB3.out (Nat.le_refl _)) HX2.out (HT.out.below HB3.out (Nat.le_refl _))).mono ?_
          rintro e w4 ⟨rfl, hB⟩
          have HB4 := Lib.hid (HB3.out.trans (hB.mono HB3.out.size))
          have HR := Lib.hid (hp_below HR.out hB (hp_lt HR.out))
          have HBx := Lib.hid (hp_below HBx.out hB (hp_lt HBx.out))
          have HNb := Lib.hid (hp_below HNb.out hB (hp_lt HNb.out))
          clear hB
          go_wp2_with fail
          go_roundw
          case rel => exact ⟨k + 1, by omega, by go_num, by rw [HO.out] <;> rfl, by rw [HO.out] <;> rfl, HR.out, by rw [HO.out]; exact HBx.out, HB4.out⟩
          case measure => simp [intOf]; omega
        | true =>
          have HO := Lib.hid (show smX ps ts (xs.take (k + 1)) = some (x, sz) by rw [HTK1.out, hgd]; rfl)
          rw [hgd] at HG1
          clear hgd HTK1
          go_wp2_with fail
          refine (HS1.out _).mono ?_
          rintro e w2 ⟨g2, rfl, hx2, hB⟩
          have HB2 := Lib.hid (HBn.out.trans (hB.mono HBn.out.size))
          have HR := Lib.hid (hp_below HRn.out hB (hp_lt HRn.out))
          have HBx := Lib.hid (hp_below HBxn.out hB (hp_lt HBxn.out))
          have HNb := Lib.hid (hp_below HNn.out hB (hp_lt HNn.out))
          have HX2 := Lib.hid hx2
          clear hB hx2 c0 c1 c2 c3 c4
          go_wp2_with fail
          refine (HSZ1.out _ _ (HP.out.below HB2.out (Nat.le_refl _)) HX2.out).mono ?_
          rintro e w3 ⟨rfl, hB⟩
          have HB3 := Lib.hid (HB2.out.trans (hB.mono HB2.out.size))
          have HR := Lib.hid (hp_below HR.out hB (hp_lt HR.out))
          have HBx := Lib.hid (hp_below HBx.out hB (hp_lt HBx.out))
          have HNb := Lib.hid (hp_below HNb.out hB (hp_lt HNb.out))
          have HX2 := Lib.hid (HX2.out.below hB (Nat.le_refl _))
          clear hB
          go_wp2_with fail
          refine (HG1.out _ _ (HP.out.below HB3.out (Nat.le_refl _)) HX2.out (HT.out.below HB3.out (Nat.le_refl _))).mono ?_
          rintro e w4 ⟨rfl, hB⟩
          have HB4 := Lib.hid (HB3.out.trans (hB.mono HB3.out.size))
          have HR := Lib.hid (hp_below HR.out hB (hp_lt HR.out))
          have HBx := Lib.hid (hp_below HBx.out hB (hp_lt HBx.out))
          have HNb := Lib.hid (hp_below HNb.out hB (hp_lt HNb.out))
          clear hB
          have y0 := hp_cell HNb.out (j := 0) (by rfl)
          have y1 := hp_cell HNb.out (j := 1) (by rfl)
          have y2 := hp_cell HNb.out (j := 2) (by rfl)
          have y3 := hp_cell HNb.out (j := 3) (by rfl)
          have y4 := hp_cell HNb.out (j := 4) (by rfl)
          have z0 := hp_cell HBx.out (j := 0) (by rfl)
          have z1 := hp_cell HBx.out (j := 1) (by rfl)
          have z2 := hp_cell HBx.out (j := 2) (by rfl)
          have z3 := hp_cell HBx.out (j := 3) (by rfl)
          have z4 := hp_cell HBx.out (j := 4) (by rfl)
          have f0 := hp_free HBx.out 0
          have f1 := hp_free HBx.out 1
          have f2 := hp_free HBx.out 2
          have f3 := hp_free HBx.out 3
          have f4 := hp_free HBx.out 4
          go_wp2_with fail
          go_roundw
          case rel => exact ⟨k + 1, by omega, by go_num, by rw [HO.out] <;> rfl, by rw [HO.out] <;> rfl, (hp_set (hp_set (hp_set (hp_set (hp_set HR.out (Nat.ne_of_lt (Nat.lt_succ_self _)) _) (Nat.ne_of_lt (Nat.lt_succ_self _)) _) (Nat.ne_of_lt (Nat.lt_succ_self _)) _) (Nat.ne_of_lt (Nat.lt_succ_self _)) _) (Nat.ne_of_lt (Nat.lt_succ_self _)) _), by rw [HO.out]; exact (hp_put (hp_put (hp_put (hp_put (hp_put HBx.out 0 _) 1 _) 2 _) 3 _) 4 _), (((((HB4.out.setCell (p := ⟨w.heap.size + 1, _, none⟩) (Nat.le_succ _) _).setCell (p := ⟨w.heap.size + 1, _, none⟩) (Nat.le_succ _) _).setCell (p := ⟨w.heap.size + 1, _, none⟩) (Nat.le_succ _) _).setCell (p := ⟨w.heap.size + 1, _, none⟩) (Nat.le_succ _) _).setCell (p := ⟨w.heap.size + 1, _, none⟩) (Nat.le_succ _) _)⟩
          case measure => simp [intOf]; omega
      | some ys =>
        obtain ⟨y, s⟩ := ys
        by_cases hle : s ≤ szE ps x
        · rw [smT_skip hle] at HTK1
          have HO := Lib.hid (show smX ps ts (xs.take (k + 1)) = some (y, s) by rw [HTK1.out])
          generalize szE ps x = sz at *
          have hd : decide (s ≤ sz) = true := decide_eq_true hle
          clear HTK1 hle
          rw [show bsS 0 (some (y, s)) = s from rfl, show (some (y, s)).isSome = true from rfl]
          go_wp2_with fail
          refine (HS1.out _).mono ?_
          rintro e w2 ⟨g2, rfl, hx2, hB⟩
          have HB2 := Lib.hid (HBn.out.trans (hB.mono HBn.out.size))
          have HR := Lib.hid (hp_below HRn.out hB (hp_lt HRn.out))
          have HBx := Lib.hid (hp_below HBxn.out hB (hp_lt HBxn.out))
          have HNb := Lib.hid (hp_below HNn.out hB (hp_lt HNn.out))
          have HX2 := Lib.hid hx2
          clear hB hx2 c0 c1 c2 c3 c4
          go_wp2_with fail
          refine (HSZ1.out _ _ (HP.out.below HB2.out (Nat.le_refl _)) HX2.out).mono ?_
          rintro e w3 ⟨rfl, hB⟩
          have HB3 := Lib.hid (HB2.out.trans (hB.mono HB2.out.size))
          have HR := Lib.hid (hp_below HR.out hB (hp_lt HR.out))
          have HBx := Lib.hid (hp_below HBx.out hB (hp_lt HBx.out))
          have HNb := Lib.hid (hp_below HNb.out hB (hp_lt HNb.out))
          have HX2 := Lib.hid (HX2.out.below hB (Nat.le_refl _))
          clear hB
          go_wp2_with fail
          go_roundw
          case rel => exact ⟨k + 1, by omega, by go_num, by rw [HO.out] <;> rfl, by rw [HO.out] <;> rfl, HR.out, by rw [HO.out]; exact HBx.out, HB3.out⟩
          case measure => simp [intOf]; omega
        · rw [smT_less hle] at HTK1
          generalize szE ps x = sz at *
          have hd : decide (s ≤ sz) = false := decide_eq_false hle
          clear hle
          rw [show bsS 0 (some (y, s)) = s from rfl, show (some (y, s)).isSome = true from rfl]
          cases hgd : gdB ps ts [x] with
          | false =>
            have HO := Lib.hid (show smX ps ts (xs.take (k + 1)) = some (y, s) by rw [HTK1.out, hgd]; rfl)
            rw [hgd] at HG1
            clear hgd HTK1
            go_wp2_with fail
            refine (HS1.out _).mono ?_
            rintro e w2 ⟨g2, rfl, hx2, hB⟩
            have HB2 := Lib.hid (HBn.out.trans (hB.mono HBn.out.size))
            have HR := Lib.hid (hp_below HRn.out hB (hp_lt HRn.out))
            have HBx := Lib.hid (hp_below HBxn.out hB (hp_lt HBxn.out))
            have HNb := Lib.hid (hp_below HNn.out hB (hp_lt HNn.out))
            have HX2 := Lib.hid hx2
            clear hB hx2 c0 c1 c2 c3 c4
            go_wp2_with fail
            refine (HSZ1.out _ _ (HP.out.below HB2.out (Nat.le_refl _)) HX2.out).mono ?_
            rintro e w3 ⟨rfl, hB⟩
            have HB3 := Lib.hid (HB2.out.trans (hB.mono HB2.out.size))
            have HR := Lib.hid (hp_below HR.out hB (hp_lt HR.out))
            have HBx := Lib.hid (hp_below HBx.out hB (hp_lt HBx.out))
            have HNb := Lib.hid (hp_below HNb.out hB (hp_lt HNb.out))
            have HX2 := Lib.hid (HX2.out.below hB (Nat.le_refl _))
            clear hB
            go_wp2_with fail
            refine (HG1.out _ _ (HP.out.below HB3.out (Nat.le_refl _)) HX2.out (HT.out.below HB3.out (Nat.le_refl _))).mono ?_
            rintro e w4 ⟨rfl, hB⟩
            have HB4 := Lib.hid (HB3.out.trans (hB.mono HB3.out.size))
            have HR := Lib.hid (hp_below HR.out hB (hp_lt HR.out))
            have HBx := Lib.hid (hp_below HBx.out hB (hp_lt HBx.out))
            have HNb := Lib.hid (hp_below HNb.out hB (hp_lt HNb.out))
            clear hB
            go_wp2_with fail
            go_roundw
            case rel => exact ⟨k + 1, by omega, by go_num, by rw [HO.out] <;> rfl, by rw [HO.out] <;> rfl, HR.out, by rw [HO.out]; exact HBx.out, HB4.out⟩
            case measure => simp [intOf]; omega
          | true =>
            have HO := Lib.hid (show smX ps ts (xs.take (k + 1)) = some (x, sz) by rw [HTK1.out, hgd]; rfl)
            rw [hgd] at HG1
            clear hgd HTK1
            go_wp2_with fail
            refine (HS1.out _).mono ?_
            rintro e w2 ⟨g2, rfl, hx2, hB⟩
            have HB2 := Lib.hid (HBn.out.trans (hB.mono HBn.out.size))
            have HR := Lib.hid (hp_below HRn.out hB (hp_lt HRn.out))
            have HBx := Lib.hid (hp_below HBxn.out hB (hp_lt HBxn.out))
            have HNb := Lib.hid (hp_below HNn.out hB (hp_lt HNn.out))
            have HX2 := Lib.hid hx2
            clear hB hx2 c0 c1 c2 c3 c4
            go_wp2_with fail
            refine (HSZ1.out _ _ (HP.out.below HB2.out (Nat.le_refl _)) HX2.out).mono ?_
            rintro e w3 ⟨rfl, hB⟩
            have HB3 := Lib.hid (HB2.out.trans (hB.mono HB2.out.size))
            have HR := Lib.hid (hp_below HR.out hB (hp_lt HR.out))
            have HBx := Lib.hid (hp_below HBx.out hB (hp_lt HBx.out))
            have HNb := Lib.hid (hp_below HNb.out hB (hp_lt HNb.out))
            have HX2 := Lib.hid (HX2.out.below hB (Nat.le_refl _))
            clear hB
            go_wp2_with fail
            refine (HG1.out _ _ (HP.out.below HB3.out (Nat.le_refl _)) HX2.out (HT.out.below HB3.out (Nat.le_refl _))).mono ?_
            rintro e w4 ⟨rfl, hB⟩
            have HB4 := Lib.hid (HB3.out.trans (hB.mono HB3.out.size))
            have HR := Lib.hid (hp_below HR.out hB (hp_lt HR.out))
            have HBx := Lib.hid (hp_below HBx.out hB (hp_lt HBx.out))
            have HNb := Lib.hid (hp_below HNb.out hB (hp_lt HNb.out))
            clear hB
            have y0 := hp_cell HNb.out (j := 0) (by rfl)
            have y1 := hp_cell HNb.out (j := 1) (by rfl)
            have y2 := hp_cell HNb.out (j := 2) (by rfl)
            have y3 := hp_cell HNb.out (j := 3) (by rfl)
            have y4 := hp_cell HNb.out (j := 4) (by rfl)
            have z0 := hp_cell HBx.out (j := 0) (by rfl)
            have z1 := hp_cell HBx.out (j := 1) (by rfl)
            have z2 := hp_cell HBx.out (j := 2) (by rfl)
            have z3 := hp_cell HBx.out (j := 3) (by rfl)
            have z4 := hp_cell HBx.out (j := 4) (by rfl)
            have f0 := hp_free HBx.out 0
            have f1 := hp_free HBx.out 1
            have f2 := hp_free HBx.out 2
            have f3 := hp_free HBx.out 3
            have f4 := hp_free HBx.out 4
            go_wp2_with fail
            go_roundw
            case rel => exact ⟨k + 1, by omega, by go_num, by rw [HO.out] <;> rfl, by rw [HO.out] <;> rfl, (hp_set (hp_set (hp_set (hp_set (hp_set HR.out (Nat.ne_of_lt (Nat.lt_succ_self _)) _) (Nat.ne_of_lt (Nat.lt_succ_self _)) _) (Nat.ne_of_lt (Nat.lt_succ_self _)) _) (Nat.ne_of_lt (Nat.lt_succ_self _)) _) (Nat.ne_of_lt (Nat.lt_succ_self _)) _), by rw [HO.out]; exact (hp_put (hp_put (hp_put (hp_put (hp_put HBx.out 0 _) 1 _) 2 _) 3 _) 4 _), (((((HB4.out.setCell (p := ⟨w.heap.size + 1, _, none⟩) (Nat.le_succ _) _).setCell (p := ⟨w.heap.size + 1, _, none⟩) (Nat.le_succ _) _).setCell (p := ⟨w.heap.size + 1, _, none⟩) (Nat.le_succ _) _).setCell (p := ⟨w.heap.size + 1, _, none⟩) (Nat.le_succ _) _).setCell (p := ⟨w.heap.size + 1, _, none⟩) (Nat.le_succ _) _)⟩
            case measure => simp [intOf]; omega
    · have hlt1 : decide ((k : Int) < (xs.length : Int)) = false := decide_eq_false (by omega)
      rw [HEND.out k hlt] at HBx ⊢
      obtain ⟨bb, hbb⟩ : ∃ bb, bb = bsE (smX ps ts xs) := ⟨_, rfl⟩
      obtain ⟨bo, hbo⟩ : ∃ bo, bo = (smX ps ts xs).isSome := ⟨_, rfl⟩
      rw [← hbb] at HBx
      rw [← hbo]
      have HBB := Lib.hid hbb
      have HBO := Lib.hid hbo
      unfold eV at HBx
      clear hbb hbo
      have y0 := hp_cell HBx.out (j := 0) (by rfl)
      have y1 := hp_cell HBx.out (j := 1) (by rfl)
      have y2 := hp_cell HBx.out (j := 2) (by rfl)
      have y3 := hp_cell HBx.out (j := 3) (by rfl)
      have y4 := hp_cell HBx.out (j := 4) (by rfl)
      have z0 := hp_cell HR.out (j := 0) (by rfl)
      have z1 := hp_cell HR.out (j := 1) (by rfl)
      have z2 := hp_cell HR.out (j := 2) (by rfl)
      have z3 := hp_cell HR.out (j := 3) (by rfl)
      have z4 := hp_cell HR.out (j := 4) (by rfl)
      have f0 := hp_free HR.out 0
      have f1 := hp_free HR.out 1
      have f2 := hp_free HR.out 2
      have f3 := hp_free HR.out 3
      have f4 := hp_free HR.out 4
      go_wp2_with fail
      refine bodyPost_ret (v := .tuple #[.agg #[.int .i64 bb.at_, .int .i64 bb.ln.op, .int .i64 bb.ln.to, .int .i64 bb.ln.a, .int .i64 bb.ln.b], .bool bo]) ?_ rfl ⟨by rw [← HBB.out, ← HBO.out]; rfl, (((((HB.out.setCell (p := ⟨w.heap.size, _, none⟩) (Nat.le_refl _) _).setCell (p := ⟨w.heap.size, _, none⟩) (Nat.le_refl _) _).setCell (p := ⟨w.heap.size, _, none⟩) (Nat.le_refl _) _).setCell (p := ⟨w.heap.size, _, none⟩) (Nat.le_refl _) _).setCell (p := ⟨w.heap.size, _, none⟩) (Nat.le_refl _) _)⟩
      exact results_cell_tmp5 (p := 8) (ty := 49) rfl _ _ w.heap.size 49 _ (0, 0) (by rfl) (hp_put (hp_put (hp_put (hp_put (hp_put HR.out 0 _) 1 _) 2 _) 3 _) 4 _) Tryz.underlying49 size_ed5 rfl

end Go.Proofs.YtfclfmloceddfaaGreat

/- single, Single of seek: contracts. -/
set_option linter.unusedVariables false
set_option linter.unusedSimpArgs false
namespace Go.Proofs.YtfclfmloceddfaaGreat
open Go.RowKit Go.Shelf Tinker

set_option maxRecDepth 100000 in
set_option maxHeartbeats 4000000 in
theorem ssingle_any (a h : Option Addr) (ca ch : Nat) (ps : List L) (ts : List T) (n : Int) (w : World) (hp : LinesAt w a ps) (hts : TestsAt w h ts) (hv : vp ps = 0) (ht : vts ts = 0) (h0 : 0 ≤ n) (h2 : n ≤ 2) :
    Calls Tryz.prog 25 #[.slice a ps.length ca, .slice h ts.length ch, srcV n] w fun e w' => e = .returned (.tuple #[.agg (eV (bsE (smX ps ts (edL ps n)))), .bool (smX ps ts (edL ps n)).isSome]) ∧ Below w.heap.size w w' := by
  have h8 := (vp_ok hv).1
  have H1 := Lib.hid (fun w h9 => sedits_any a ca ps n w h9 hv h0 h2)
  have H2 := Lib.hid (fun g cg w h1 h2 h3 => smallestE_any a h ca ch ps ts g cg (edL ps n) w h1 h2 h3 (fun x hx => edL_ok hv hx) ht (by omega) (by have := edK_len ps n ps.length; unfold edL; omega))
  obtain ⟨bb, hbb⟩ : ∃ bb, bb = bsE (smX ps ts (edL ps n)) := ⟨_, rfl⟩
  obtain ⟨bo, hbo⟩ : ∃ bo, bo = (smX ps ts (edL ps n)).isSome := ⟨_, rfl⟩
  rw [← hbb, ← hbo]
  rw [← hbb, ← hbo] at H2
  have HP := Lib.hid hp
  have HT := Lib.hid hts
  generalize srcV n = v at *
  generalize edL ps n = XS at *
  have HR0 := Lib.hid (hp_new (w := w) (o := .cells #[.int .i64 0, .int .i64 0, .int .i64 0, .int .i64 0, .int .i64 0] 49 (0, 0)) rfl)
  have HB0 := Lib.hid ((Below.refl w.heap.size w).alloc (Nat.le_refl _) (.cells #[.int .i64 0, .int .i64 0, .int .i64 0, .int .i64 0, .int .i64 0] 49))
  unfold eV at H2 ⊢
  clear hbb hbo hv ht h0 h2 hp hts h8
  go_enter Tryz.func25, Tryz.ntmps25
  go_wp2_with fail
  refine (H1.out _ (HP.out.below HB0.out (Nat.le_refl _))).mono ?_
  rintro e w1 ⟨a1, k1, rfl, hq, hB⟩
  have HX := Lib.hid (edits_of_own hq).1
  have HR1 := Lib.hid (hp_below HR0.out hB (hp_lt HR0.out))
  have HB1 := Lib.hid (HB0.out.trans (hB.mono HB0.out.size))
  clear hq hB
  go_wp2_with fail
  refine (H2.out _ _ _ (HP.out.below HB1.out (Nat.le_refl _)) (HT.out.below HB1.out (Nat.le_refl _)) HX.out).mono ?_
  rintro e w2 ⟨rfl, hB⟩
  have HR2 := Lib.hid (hp_below HR1.out hB (hp_lt HR1.out))
  have HB2 := Lib.hid (HB1.out.trans (hB.mono HB1.out.size))
  clear hB
  have z0 := hp_cell HR2.out (j := 0) (by rfl)
  have z1 := hp_cell HR2.out (j := 1) (by rfl)
  have z2 := hp_cell HR2.out (j := 2) (by rfl)
  have z3 := hp_cell HR2.out (j := 3) (by rfl)
  have z4 := hp_cell HR2.out (j := 4) (by rfl)
  have f0 := hp_free HR2.out 0
  have f1 := hp_free HR2.out 1
  have f2 := hp_free HR2.out 2
  have f3 := hp_free HR2.out 3
  have f4 := hp_free HR2.out 4
  go_wp2_with fail
  refine bodyPost_ret (v := .tuple #[.agg #[.int .i64 bb.at_, .int .i64 bb.ln.op, .int .i64 bb.ln.to, .int .i64 bb.ln.a, .int .i64 bb.ln.b], .bool bo]) ?_ rfl ⟨rfl, (((((HB2.out.setCell (p := ⟨w.heap.size, _, none⟩) (Nat.le_refl _) _).setCell (p := ⟨w.heap.size, _, none⟩) (Nat.le_refl _) _).setCell (p := ⟨w.heap.size, _, none⟩) (Nat.le_refl _) _).setCell (p := ⟨w.heap.size, _, none⟩) (Nat.le_refl _) _).setCell (p := ⟨w.heap.size, _, none⟩) (Nat.le_refl _) _)⟩
  exact results_cell_tmp5 (p := 6) (ty := 49) rfl _ _ w.heap.size 49 _ (0, 0) (by rfl) (hp_put (hp_put (hp_put (hp_put (hp_put HR2.out 0 _) 1 _) 2 _) 3 _) 4 _) Tryz.underlying49 size_ed5 rfl

/-- What Single answers. -/
def sgO (ps : List L) (ts : List T) (n : Int) : Option (E × Int) := if skC ps ts n = 0 then smX ps ts (edL ps n) else none

end Go.Proofs.YtfclfmloceddfaaGreat
