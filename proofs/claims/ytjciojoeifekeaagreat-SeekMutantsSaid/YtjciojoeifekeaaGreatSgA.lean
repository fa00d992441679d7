/- Several texts in one. -/
import Derived.Test.YtjciojoeifekeaaGreatFxE
import Derived.Test.YtjciojoeifekeaaGreatPtD
/- Plain mathematics: the edits with candidates at all places; the smallest good one. -/
set_option linter.unusedVariables false
set_option linter.unusedSimpArgs false
namespace Go.Proofs.YtjciojoeifekeaaGreat
open Go.RowKit Go.Shelf Tinker

/-- The edits with candidates at the first places, and at all. -/
def edK (ps : List L) (n : Int) (k : Nat) : List E := (List.range k).flatMap fun i => (cndL ps i n).map fun m => (⟨(i : Int), m⟩ : E)
def edL (ps : List L) (n : Int) : List E := edK ps n ps.length
theorem edK_succ (ps : List L) (n : Int) (k : Nat) : edK ps n (k + 1) = edK ps n k ++ (cndL ps k n).map fun m => (⟨(k : Int), m⟩ : E) := by
  unfold edK
  rw [List.range_succ, List.flatMap_append]
  simp
theorem edK_len (ps : List L) (n : Int) : ∀ k, (edK ps n k).length ≤ 1000 * k
  | 0 => by simp [edK]
  | k + 1 => by
    rw [edK_succ, List.length_append, List.length_map]
    have := edK_len ps n k
    have := cnd_len9 ps k n
    omega
theorem edK_mem {ps : List L} {n : Int} {k : Nat} {e : E} : e ∈ edK ps n k ↔ ∃ i m, i < k ∧ m ∈ cndL ps i n ∧ e = ⟨(i : Int), m⟩ := by
  unfold edK
  rw [List.mem_flatMap]
  constructor
  · rintro ⟨i, hi, h⟩
    obtain ⟨m, hm, rfl⟩ := List.mem_map.1 h
    exact ⟨i, m, List.mem_range.1 hi, hm, rfl⟩
  · rintro ⟨i, m, hi, hm, rfl⟩
    exact ⟨i, List.mem_range.2 hi, List.mem_map.2 ⟨m, hm, rfl⟩⟩
theorem edL_ok {ps : List L} {n : Int} {e : E} (hv : vp ps = 0) (h : e ∈ edL ps n) : vpx ps [e] 0 = 0 := by
  obtain ⟨i, m, hi, hm, rfl⟩ := edK_mem.1 h
  exact vpx_one hv hi (cnd_ln hm)
theorem edL_sub {ps : List L} {n : Int} {e : E} (h : e ∈ edL ps n) : e ∈ edL ps 2 := by
  obtain ⟨i, m, hi, hm, rfl⟩ := edK_mem.1 h
  exact edK_mem.2 ⟨i, m, hi, (cnd_sub ps i n).subset hm, rfl⟩
/-- How many fields an edit changes; the smallest good edit so far. -/
def szE (ps : List L) (e : E) : Int := dsN e.ln (lnD ps e.at_.toNat)
def smT (ps : List L) (ts : List T) (o : Option (E × Int)) (x : E) : Option (E × Int) :=
  match o with
  | none => if gdB ps ts [x] = true then some (x, szE ps x) else none
  | some y => if y.2 ≤ szE ps x then some y else if gdB ps ts [x] = true then some (x, szE ps x) else some y
def smX (ps : List L) (ts : List T) (xs : List E) : Option (E × Int) := xs.foldl (smT ps ts) none
theorem smX_nil (ps : List L) (ts : List T) : smX ps ts [] = none := rfl
theorem smX_snoc (ps : List L) (ts : List T) (xs : List E) (x : E) : smX ps ts (xs ++ [x]) = smT ps ts (smX ps ts xs) x := by unfold smX; rw [List.foldl_append]; rfl
theorem smX_take {ps : List L} {ts : List T} {xs : List E} {k : Nat} {x : E} (h : xs[k]? = some x) : smX ps ts (xs.take (k + 1)) = smT ps ts (smX ps ts (xs.take k)) x := by rw [take_snoc h, smX_snoc]
theorem smT_none {ps : List L} {ts : List T} {x : E} : smT ps ts none x = if gdB ps ts [x] = true then some (x, szE ps x) else none := rfl
theorem smT_skip {ps : List L} {ts : List T} {x y : E} {s : Int} (h : s ≤ szE ps x) : smT ps ts (some (y, s)) x = some (y, s) := by unfold smT; exact if_pos h
theorem smT_less {ps : List L} {ts : List T} {x y : E} {s : Int} (h : ¬ s ≤ szE ps x) : smT ps ts (some (y, s)) x = if gdB ps ts [x] = true then some (x, szE ps x) else some (y, s) := by unfold smT; exact if_neg h
/-- What is known of it: it is good, of its size, and none of those good is smaller; there is one if there is any good one. -/
theorem smX_inv (ps : List L) (ts : List T) (xs : List E) : (smX ps ts xs = none → ∀ x ∈ xs, gdB ps ts [x] = false) ∧ (∀ y s, smX ps ts xs = some (y, s) → y ∈ xs ∧ gdB ps ts [y] = true ∧ s = szE ps y ∧ ∀ x ∈ xs, gdB ps ts [x] = true → s ≤ szE ps x) := by
  suffices H : ∀ k, k ≤ xs.length → (smX ps ts (xs.take k) = none → ∀ x ∈ xs.take k, gdB ps ts [x] = false) ∧ (∀ y s, smX ps ts (xs.take k) = some (y, s) → y ∈ xs.take k ∧ gdB ps ts [y] = true ∧ s = szE ps y ∧ ∀ x ∈ xs.take k, gdB ps ts [x] = true → s ≤ szE ps x) by
    have := H xs.length (Nat.le_refl _)
    rwa [List.take_length] at this
  intro k
  induction k with
  | zero => intro _; simp [smX]
  | succ k ih =>
    intro hk
    obtain ⟨i1, i2⟩ := ih (by omega)
    obtain ⟨x, hx⟩ := get_of_lt (show k < xs.length by omega)
    rw [smX_take hx, take_snoc hx]
    have mem : ∀ z, z ∈ xs.take k ++ [x] ↔ z ∈ xs.take k ∨ z = x := fun z => by simp
    cases hq : smX ps ts (xs.take k) with
    | none =>
      rw [smT_none]
      have i1 := i1 hq
      by_cases hg : gdB ps ts [x] = true
      · rw [if_pos hg]
        refine ⟨fun h => (by cases h), fun y s h => ?_⟩
        injection h with h
        injection h with h1 h2
        subst h1 h2
        refine ⟨(mem _).2 (.inr rfl), hg, rfl, fun z hz hgz => ?_⟩
        rcases (mem _).1 hz with hz | rfl
        · rw [i1 z hz] at hgz; cases hgz
        · exact Int.le_refl _
      · rw [if_neg hg]
        refine ⟨fun _ z hz => ?_, fun y s h => (by cases h)⟩
        rcases (mem _).1 hz with hz | rfl
        · exact i1 z hz
        · simpa using hg
    | some o =>
      obtain ⟨y, s⟩ := o
      obtain ⟨a1, a2, a3, a4⟩ := i2 y s hq
      by_cases hle : s ≤ szE ps x
      · rw [smT_skip hle]
        refine ⟨fun h => (by cases h), fun y' s' h => ?_⟩
        injection h with h
        injection h with h1 h2
        subst h1 h2
        refine ⟨(mem _).2 (.inl a1), a2, a3, fun z hz hgz => ?_⟩
        rcases (mem _).1 hz with hz | rfl
        · exact a4 z hz hgz
        · exact hle
      · rw [smT_less hle]
        by_cases hg : gdB ps ts [x] = true
        · rw [if_pos hg]
          refine ⟨fun h => (by cases h), fun y' s' h => ?_⟩
          injection h with h
          injection h with h1 h2
          subst h1 h2
          refine ⟨(mem _).2 (.inr rfl), hg, rfl, fun z hz hgz => ?_⟩
          rcases (mem _).1 hz with hz | rfl
          · have := a4 z hz hgz; omega
          · exact Int.le_refl _
        · rw [if_neg hg]
          refine ⟨fun h => (by cases h), fun y' s' h => ?_⟩
          injection h with h
          injection h with h1 h2
          subst h1 h2
          refine ⟨(mem _).2 (.inl a1), a2, a3, fun z hz hgz => ?_⟩
          rcases (mem _).1 hz with hz | rfl
          · exact a4 z hz hgz
          · exact absurd hgz hg
/-- What the smallest is, whether there is one, and its size. -/
def eZ : E := ⟨0, ⟨0, 0, 0, 0⟩⟩
def bsE (o : Option (E × Int)) : E := match o with | none => eZ | some y => y.1
def bsS (z : Int) (o : Option (E × Int)) : Int := match o with | none => z | some y => y.2

end Go.Proofs.YtjciojoeifekeaaGreat

/- edits, the closure of single: contracts. -/
set_option linter.unusedVariables false
set_option linter.unusedSimpArgs false
namespace Go.Proofs.YtjciojoeifekeaaGreat
open Go.RowKit Go.Shelf Tinker

theorem own_ne5 {W : World} {b1 b2 n1 n2 k1 k2 : Nat} {e1 e2 : TypeId} {v1 v2 : Value} {x1 x2 : List Value} (h1 : W.ownsRow b1 e1 k1 v1 n1 x1) (h2 : W.ownsRow b2 e2 k2 v2 n2 x2) (he : e1 ≠ e2) : v2.ownBlock = none ∨ v2.ownBlock ≠ v1.ownBlock := by
  rcases h2.2 with ⟨rfl, _⟩ | ⟨g2, c2, cur2, rfl, _, hg2, _⟩
  · exact .inl rfl
  · rcases h1.2 with ⟨rfl, _⟩ | ⟨g1, c1, cur1, rfl, _, hg1, _⟩
    · exact .inr (by simp [Value.ownBlock])
    · refine .inr fun h => ?_
      have e : g2 = g1 := by simpa [Value.ownBlock] using h
      subst e
      rw [hg1] at hg2
      injection hg2 with h3
      injection h3 with _ h4
      exact he h4
theorem edits_snoc {w W1 : World} {v' : Value} {ls : List E} {n : Nat} {l : E} (h : W1.ownsRow w.heap.size 41 5 v' (n + 1) (ec ls ++ ec [l])) : W1.ownsRow w.heap.size 41 5 v' (n + 1) (ec (ls ++ [l])) := by
  rw [ec_append]; exact h
theorem map_take_E {Z : List L} {f : L → E} {j : Nat} {x : L} (h : Z[j]? = some x) : (Z.take (j + 1)).map f = (Z.take j).map f ++ [f x] := by rw [take_snoc h, List.map_append]; rfl

set_option maxRecDepth 100000 in
set_option maxHeartbeats 4000000 in
theorem sedits_any (a : Option Addr) (ca : Nat) (ps : List L) (n : Int) (w : World) (hp : LinesAt w a ps) (hv : vp ps = 0) (h0 : 0 ≤ n) (h2 : n ≤ 2) :
    Calls Tryz.prog 94 #[.slice a ps.length ca, srcV n] w (GivesEdits (edL ps n) w) := by
  obtain ⟨i0, hI, hz0, hz1, hz2⟩ := info_parts info_edit
  obtain ⟨h8, _⟩ := vp_ok hv
  have HC := Lib.hid (fun i w h9 (hi : i < ps.length) => candidates_any a ca ps i n w h9 hv hi h0 h2)
  have HP := Lib.hid hp
  have HS := Lib.hid (edK_succ ps n)
  have HL := Lib.hid (edK_len ps n)
  have HCL := Lib.hid (fun i => cnd_len9 ps i n)
  have HZ := Lib.hid (show edK ps n 0 = [] from rfl)
  unfold edL
  generalize edK ps n = ed at *
  generalize srcV n = v at *
  clear hv h0 h2 hp
  go_enter Tryz.func94, Tryz.ntmps94
  go_wp2_with fail
  go_loopw [5, 11] (fun s5 s11 wr => ∃ k : Nat, k ≤ ps.length ∧ s11 = .int .i64 (k : Int) ∧ wr.ownsRow w.heap.size 41 5 s5 (ed k).length (ec (ed k)) ∧ Below w.heap.size w wr) (fun _ s11 _ => ps.length - (intOf s11).toNat)
  case atStart => exact ⟨0, Nat.zero_le _, rfl, by rw [HZ.out]; exact World.ownsRow_nil _ _ _ _, Below.refl _ _⟩
  case round =>
    obtain ⟨k, hk, rfl, hO, hB⟩ := hrel
    have HO := Lib.hid hO
    have HB := Lib.hid hB
    clear hO hB
    by_cases hlt : k < ps.length
    · have hlt1 : decide ((k : Int) < (ps.length : Int)) = true := decide_eq_true (by omega)
      have HC1 := Lib.hid (fun w h9 => HC.out k w h9 hlt)
      have HS1 := Lib.hid (HS.out k)
      have hl1 := HL.out k
      have hl2 := HCL.out k
      generalize cndL ps k n = Z at *
      generalize ed k = LS at *
      obtain ⟨va, vc, rfl⟩ := own_slice HO.out
      go_wp2_with fail
      refine (HC1.out _ (HP.out.below HB.out (Nat.le_refl _))).mono ?_
      rintro e w1 ⟨a1, k1, rfl, hq, hB⟩
      have HO := Lib.hid (own_below HO.out hB (Nat.le_refl _))
      have HB1 := Lib.hid (HB.out.trans (hB.mono HB.out.size))
      have HT := Lib.hid (lines_of_own hq).1
      have HTO := Lib.hid hq
      clear hq hB
      obtain ⟨wo, hwo⟩ : ∃ W, W = w1 := ⟨_, rfl⟩
      go_wp2_with fail
      go_loopw [5, 19] (fun s5 s19 wx => ∃ j : Nat, j ≤ Z.length ∧ s19 = .int .i64 (j : Int) ∧ wx.ownsRow w.heap.size 41 5 s5 (LS ++ (Z.take j).map fun m => (⟨(k : Int), m⟩ : E)).length (ec (LS ++ (Z.take j).map fun m => (⟨(k : Int), m⟩ : E))) ∧ wx.ownsRow w.heap.size 23 4 (.slice a1 Z.length k1) Z.length (lc Z) ∧ Below w.heap.size w wx) (fun _ s19 _ => Z.length - (intOf s19).toNat)
      case atStart => exact ⟨0, Nat.zero_le _, rfl, by rw [List.take_zero, List.map_nil, List.append_nil]; exact HO.out, own_mono HTO.out HB.out.size, HB1.out⟩
      case round =>
        clear HO HTO HT HB1
        obtain ⟨j, hj, rfl, hO, hT, hB⟩ := hrel
        have HO := Lib.hid hO
        have HT := Lib.hid hT
        have HB := Lib.hid hB
        clear hO hT hB
        by_cases hlj : j < Z.length
        · have hlj1 : decide ((j : Int) < (Z.length : Int)) = true := decide_eq_true (by omega)
          obtain ⟨tb, toff, x, rfl, htl, hx, d0, d1, d2, d3⟩ := (lines_of_own HT.out).1.at_ hlj
          have HN := Lib.hid (show LS ++ (Z.take (j + 1)).map (fun m => (⟨(k : Int), m⟩ : E)) = (LS ++ (Z.take j).map fun m => (⟨(k : Int), m⟩ : E)) ++ [⟨(k : Int), x⟩] by rw [map_take_E hx, List.append_assoc])
          have hll : (LS ++ (Z.take j).map fun m => (⟨(k : Int), m⟩ : E)).length ≤ 100000 := by rw [List.length_append, List.length_map, List.length_take]; omega
          generalize (LS ++ (Z.take j).map fun m => (⟨(k : Int), m⟩ : E)) = LS2 at *
          clear hx
          obtain ⟨va, vc, rfl⟩ := own_slice HO.out
          have hal : Below wr.heap.size wr ((wr.alloc (.cells (lV x) 23)).alloc (.cells (eV ⟨(k : Int), x⟩) 41)) := ((Below.refl _ _).alloc (Nat.le_refl _) _).alloc (by simp) _
          have HO2 := Lib.hid (own_below HO.out hal (Nat.le_refl _))
          have HT2 := Lib.hid (own_below HT.out hal (Nat.le_refl _))
          have HB2 := Lib.hid (HB.out.trans (hal.mono HB.out.size))
          have HCN := Lib.hid (show ∀ j u, (ec [⟨(k : Int), x⟩])[j]? = some u → ((wr.alloc (.cells (lV x) 23)).alloc (.cells (eV ⟨(k : Int), x⟩) 41)).cell? ((⟨wr.heap.size + 1, 0, none⟩ : Addr).add j) = some u from fun j u h => by
            have h9 := cells_newE (wr.alloc (.cells (lV x) 23)) ⟨(k : Int), x⟩ j u h
            rwa [show (wr.alloc (.cells (lV x) 23)).heap.size = wr.heap.size + 1 by simp] at h9)
          unfold lV eV at HO2 HT2 HB2 HCN
          clear hal HO HT
          go_wp2_with (at_builtin; (refine wpList_append_own _ rfl (.tmp 23) (.tmp 27) 42 rfl w.heap.size 41 i0 (.agg #[.int .i64 0, .int .i64 0, .int .i64 0, .int .i64 0, .int .i64 0]) 5 40 Tryz.underlying42 hI hz0 hz1 hz2 rfl (by decide) (.slice va LS2.length vc) LS2.length (ec LS2) rfl HO2.out ⟨wr.heap.size + 1, 0, none⟩ 1 1 (ec [⟨(k : Int), x⟩]) rfl ?c1 ?c2 ?c3 ?c4 ?c5 ?c6 ?_))
          case c1 => rfl
          case c2 => first | exact HCN.out | exact fun j u h => h
          case c3 => exact ec_one _
          case c4 => simp [maxLen]; omega
          case c5 => omega
          case c6 => first | exact HB2.out.size | (have h9 := HB2.out.size; simp at h9; omega)
          intro v' w5 hown hgrow _
          have HB5 := Lib.hid (HB2.out.grown hgrow HB2.out.size (by rintro k hk; exact (HO2.out.lt k hk).1))
          have HO5 := Lib.hid (edits_snoc hown)
          have HT5 := Lib.hid (HT2.out.kept hgrow (own_ne5 HO2.out HT2.out (by decide)))
          clear hown hgrow
          go_wp2_with fail
          go_roundw
          case rel => exact ⟨j + 1, by omega, by go_num, by rw [HN.out, List.length_append]; exact HO5.out, HT5.out, HB5.out⟩
          case measure => simp [intOf]; omega
        · obtain rfl : j = Z.length := by omega
          have hlj1 : decide ((Z.length : Int) < (Z.length : Int)) = false := decide_eq_false (by omega)
          have hO := HO.out
          rw [List.take_length, ← HS1.out] at hO
          have HO := Lib.hid hO
          clear hO
          go_wp2_with fail
          go_roundw
          case rel => exact ⟨k + 1, by omega, by go_num, HO.out, HB.out⟩
          case measure => simp [intOf]; omega
    · obtain rfl : k = ps.length := by omega
      have hlt1 : decide ((ps.length : Int) < (ps.length : Int)) = false := decide_eq_false (by omega)
      go_wp2_with fail
      go_ret
      exact givesEdits_of rfl HO.out HB.out

end Go.Proofs.YtjciojoeifekeaaGreat
