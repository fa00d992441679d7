/- Rename of package code: contract. -/
import Derived.Test.YtmideaancmpafacRenB
import Derived.Test.YtmideaancmpafacPutB
set_option linter.unusedVariables false
set_option linter.unusedSimpArgs false
namespace Go.Proofs.Ytmideaancmpafac
open Go.RowKit Tinker

def rnC (ps : List L) (nm : List Int) : Int := fe (vp ps) (nmC nm)
def rnP (ps : List L) (nm : List Int) : List L := if rnC ps nm = 0 then ps.map (renL nm) else []
theorem rnC_ok {ps : List L} {nm : List Int} (h : rnC ps nm = 0) : vp ps = 0 ∧ isOrd nm = true := by
  unfold rnC fe at h
  split at h
  · refine ⟨by assumption, ?_⟩
    unfold nmC at h
    split at h
    · assumption
    · cases h
  · exact absurd h (by assumption)
theorem rnP_yes {ps : List L} {nm : List Int} (h : rnC ps nm = 0) : rnP ps nm = ps.map (renL nm) := by unfold rnP; rw [if_pos h]
theorem rnP_no {ps : List L} {nm : List Int} (h : rnC ps nm ≠ 0) : rnP ps nm = [] := by unfold rnP; rw [if_neg h]
theorem rnP_len (ps : List L) (nm : List Int) : (rnP ps nm).length ≤ ps.length := by unfold rnP; split <;> simp

/-- The first k lines renamed. -/
def renTo (nm : List Int) (ps : List L) : Nat → List L
  | 0 => ps
  | k + 1 => (renTo nm ps k).set k (renL nm (ps.getD k ⟨0, 0, 0, 0⟩))
theorem renTo_length (nm : List Int) (ps : List L) : ∀ k, (renTo nm ps k).length = ps.length
  | 0 => rfl
  | k + 1 => by rw [renTo, List.length_set]; exact renTo_length nm ps k
theorem renTo_get (nm : List Int) (ps : List L) : ∀ (k i : Nat), k ≤ ps.length → (renTo nm ps k)[i]? = if i < k then (ps.map (renL nm))[i]? else ps[i]?
  | 0, i, hk => by rw [if_neg (by omega)]; rfl
  | k + 1, i, hk => by
    rw [renTo, List.getElem?_set, renTo_get nm ps k i (by omega), renTo_length]
    obtain ⟨x, hx⟩ := get_of_lt (show k < ps.length by omega)
    by_cases e : k = i
    · subst e
      rw [if_pos rfl, if_pos (by omega), if_pos (by omega), List.getElem?_map, hx, getD_of_get hx]; rfl
    · rw [if_neg e]
      by_cases h1 : i < k
      · rw [if_pos h1, if_pos (by omega)]
      · rw [if_neg h1, if_neg (by omega)]
theorem renTo_all (nm : List Int) (ps : List L) : renTo nm ps ps.length = ps.map (renL nm) := by
  refine List.ext_getElem? fun i => ?_
  rw [renTo_get _ _ _ _ (Nat.le_refl _)]
  by_cases h : i < ps.length
  · rw [if_pos h]
  · rw [if_neg h, List.getElem?_eq_none (by omega), List.getElem?_eq_none (by simp; omega)]
theorem renTo_at {nm : List Int} {ps : List L} {k : Nat} {l : L} (hl : ps[k]? = some l) : (renTo nm ps k)[k]? = some l := by
  rw [renTo_get _ _ _ _ (Nat.le_of_lt (List.getElem?_eq_some_iff.1 hl).1), if_neg (by omega), hl]
theorem renTo_next {nm : List Int} {ps : List L} {k : Nat} {l : L} (hl : ps[k]? = some l) : renTo nm ps (k + 1) = (renTo nm ps k).set k (renL nm l) := by rw [renTo, getD_of_get hl]

/-- What the table says of a valid line's kinds. -/
structure RowK (l : L) (nm : List Int) (k0 k1 k2 : Int) (f g : Nat) : Prop where
  fcells : ∀ j v, [Value.int .i64 k0, .int .i64 k1, .int .i64 k2, .func (.func f) #[] #[], .func (.func g) #[] #[]][j]? = some v → opsT[l.op.toNat * 5 + j]? = some v
  fk0 : k0 = 0 ∨ k0 = 1 ∨ k0 = 2 ∨ k0 = 3
  fk1 : k1 = 0 ∨ k1 = 1 ∨ k1 = 2 ∨ k1 = 3
  fk2 : k2 = 0 ∨ k2 = 1 ∨ k2 = 2 ∨ k2 = 3
  r0 : k0 = 1 → 0 ≤ l.to ∧ l.to ≤ 3
  r1 : k1 = 1 → 0 ≤ l.a ∧ l.a ≤ 3
  r2 : k2 = 1 → 0 ≤ l.b ∧ l.b ≤ 3
  e0 : inK k0 nm l.to = (renL nm l).to
  e1 : inK k1 nm l.a = (renL nm l).a
  e2 : inK k2 nm l.b = (renL nm l).b
theorem rowK_of {l : L} (hl : isLn l = true) (nm : List Int) : ∃ k0 k1 k2 f g, RowK l nm k0 k1 k2 f g := by
  have ho := isLn_op hl
  have ha := isLn_a hl
  have hb := isLn_b hl
  have ht := isLn_to hl
  obtain ⟨op, td, a, b⟩ := l
  simp only at ho ha hb ht
  have h : op = 0 ∨ op = 1 ∨ op = 2 ∨ op = 3 ∨ op = 4 ∨ op = 5 ∨ op = 6 ∨ op = 7 := by omega
  rcases h with rfl | rfl | rfl | rfl | rfl | rfl | rfl | rfl
  · exact ⟨0, 0, 0, 79, 80, cells5 rfl rfl rfl rfl rfl, by simp, by simp, by simp, fun h => by omega, fun h => by omega, fun h => by omega, by simp [inK, renL, wr], by simp [inK, renL], by simp [inK, renL]⟩
  · exact ⟨1, 2, 0, 79, 80, cells5 rfl rfl rfl rfl rfl, by simp, by simp, by simp, fun h => ht (by omega) (by omega), fun h => by omega, fun h => by omega, by simp [inK, renL, wr, rg], by simp [inK, renL], by simp [inK, renL]⟩
  · exact ⟨1, 1, 0, 79, 80, cells5 rfl rfl rfl rfl rfl, by simp, by simp, by simp, fun h => ht (by omega) (by omega), fun h => ha (by omega), fun h => by omega, by simp [inK, renL, wr, rg], by simp [inK, renL, rg], by simp [inK, renL]⟩
  · exact ⟨1, 1, 1, 81, 80, cells5 rfl rfl rfl rfl rfl, by simp, by simp, by simp, fun h => ht (by omega) (by omega), fun h => ha (by omega), fun h => hb (by omega), by simp [inK, renL, wr, rg], by simp [inK, renL, rg], by simp [inK, renL, rg]⟩
  · exact ⟨1, 1, 1, 82, 80, cells5 rfl rfl rfl rfl rfl, by simp, by simp, by simp, fun h => ht (by omega) (by omega), fun h => ha (by omega), fun h => hb (by omega), by simp [inK, renL, wr, rg], by simp [inK, renL, rg], by simp [inK, renL, rg]⟩
  · exact ⟨1, 1, 1, 83, 80, cells5 rfl rfl rfl rfl rfl, by simp, by simp, by simp, fun h => ht (by omega) (by omega), fun h => ha (by omega), fun h => hb (by omega), by simp [inK, renL, wr, rg], by simp [inK, renL, rg], by simp [inK, renL, rg]⟩
  · exact ⟨1, 1, 1, 84, 80, cells5 rfl rfl rfl rfl rfl, by simp, by simp, by simp, fun h => ht (by omega) (by omega), fun h => ha (by omega), fun h => hb (by omega), by simp [inK, renL, wr, rg], by simp [inK, renL, rg], by simp [inK, renL, rg]⟩
  · exact ⟨3, 1, 1, 79, 85, cells5 rfl rfl rfl rfl rfl, by simp, by simp, by simp, fun h => by omega, fun h => ha (by omega), fun h => hb (by omega), by simp [inK, renL, wr], by simp [inK, renL, rg], by simp [inK, renL, rg]⟩

/-- The memory of Rename: the names, the table, the new program. -/
structure RnJ (N T g c n : Nat) (nm : List Int) (qs : List L) (w W : World) : Prop where
  bN : W.heap[N]? = some (.cells (iv nm) 93 (0, 0))
  bT : W.heap[T]? = some (.cells opsT 116 (0, 0))
  own : W.ownsRow w.heap.size 43 4 (.slice (some ⟨g, 0, none⟩) n c) n (lc qs)
  ne : N ≠ g ∧ T ≠ g
  below : Below w.heap.size w W
theorem RnJ.low {N T g c n : Nat} {nm : List Int} {qs : List L} {w W W' : World} (h : RnJ N T g c n nm qs w W) (hb : Below W.heap.size W W') : RnJ N T g c n nm qs w W' :=
  ⟨hp_below h.bN hb (hp_lt h.bN), hp_below h.bT hb (hp_lt h.bT), own_below h.own hb (Nat.le_refl _), h.ne, h.below.trans (hb.mono h.below.size)⟩
theorem RnJ.alloc {N T g c n : Nat} {nm : List Int} {qs : List L} {w W : World} (h : RnJ N T g c n nm qs w W) (o : Obj) : RnJ N T g c n nm qs w (W.alloc o) := h.low ((Below.refl _ _).alloc (Nat.le_refl _) o)
theorem RnJ.drew {N T g c n : Nat} {nm : List Int} {qs : List L} {w W : World} (h : RnJ N T g c n nm qs w W) : RnJ N T g c n nm qs w W.drew := h.low ⟨rfl, rfl, rfl, Nat.le_refl _, fun _ _ => rfl⟩
theorem RnJ.put {N T g c n : Nat} {nm : List Int} {qs : List L} {w W : World} (h : RnJ N T g c n nm qs w W) {i : Nat} (hi : i < qs.length) (l : L) : RnJ N T g c n nm (qs.set i l) w ((((W.setCell ⟨g, i * 4, none⟩ (.int .i64 l.op)).setCell ⟨g, i * 4 + 1, none⟩ (.int .i64 l.to)).setCell ⟨g, i * 4 + 2, none⟩ (.int .i64 l.a)).setCell ⟨g, i * 4 + 3, none⟩ (.int .i64 l.b)) :=
  ⟨hp_set (hp_set (hp_set (hp_set h.bN h.ne.1 _) h.ne.1 _) h.ne.1 _) h.ne.1 _, hp_set (hp_set (hp_set (hp_set h.bT h.ne.2 _) h.ne.2 _) h.ne.2 _) h.ne.2 _, own_setLine h.own hi l, h.ne,
   (((h.below.setCell (p := ⟨g, _, none⟩) (own_base' h.own) _).setCell (p := ⟨g, _, none⟩) (own_base' h.own) _).setCell (p := ⟨g, _, none⟩) (own_base' h.own) _).setCell (p := ⟨g, _, none⟩) (own_base' h.own) _⟩

/-- In the region: the line's box and the row of the table's box, too. -/
structure RnS (Lb Ob : Nat) (l : L) (k0 k1 k2 : Int) (f g' : Nat) (n0 n1 n2 n3 : Int) (N T g c n : Nat) (qs : List L) (w W : World) : Prop where
  bL : W.heap[Lb]? = some (.cells #[.int .i64 l.op, .int .i64 l.to, .int .i64 l.a, .int .i64 l.b] 43 (0, 0))
  bO : W.heap[Ob]? = some (.cells #[.int .i64 k0, .int .i64 k1, .int .i64 k2, .func (.func f) #[] #[], .func (.func g') #[] #[]] 115 (0, 0))
  j : RnJ N T g c n [n0, n1, n2, n3] qs w W
  n1' : g ≠ Lb
  n2' : g ≠ Ob
theorem RnS.low {Lb Ob : Nat} {l : L} {k0 k1 k2 : Int} {f g' : Nat} {n0 n1 n2 n3 : Int} {N T g c n : Nat} {qs : List L} {w W W' : World} (h : RnS Lb Ob l k0 k1 k2 f g' n0 n1 n2 n3 N T g c n qs w W) (hb : Below W.heap.size W W') : RnS Lb Ob l k0 k1 k2 f g' n0 n1 n2 n3 N T g c n qs w W' :=
  ⟨hp_below h.bL hb (hp_lt h.bL), hp_below h.bO hb (hp_lt h.bO), h.j.low hb, h.n1', h.n2'⟩
theorem RnS.alloc {Lb Ob : Nat} {l : L} {k0 k1 k2 : Int} {f g' : Nat} {n0 n1 n2 n3 : Int} {N T g c n : Nat} {qs : List L} {w W : World} (h : RnS Lb Ob l k0 k1 k2 f g' n0 n1 n2 n3 N T g c n qs w W) (o : Obj) : RnS Lb Ob l k0 k1 k2 f g' n0 n1 n2 n3 N T g c n qs w (W.alloc o) := h.low ((Below.refl _ _).alloc (Nat.le_refl _) o)
theorem RnS.drew {Lb Ob : Nat} {l : L} {k0 k1 k2 : Int} {f g' : Nat} {n0 n1 n2 n3 : Int} {N T g c n : Nat} {qs : List L} {w W : World} (h : RnS Lb Ob l k0 k1 k2 f g' n0 n1 n2 n3 N T g c n qs w W) : RnS Lb Ob l k0 k1 k2 f g' n0 n1 n2 n3 N T g c n qs w W.drew := h.low ⟨rfl, rfl, rfl, Nat.le_refl _, fun _ _ => rfl⟩
theorem RnS.put {Lb Ob : Nat} {l : L} {k0 k1 k2 : Int} {f g' : Nat} {n0 n1 n2 n3 : Int} {N T g c n : Nat} {qs : List L} {w W : World} (h : RnS Lb Ob l k0 k1 k2 f g' n0 n1 n2 n3 N T g c n qs w W) {i : Nat} (hi : i < qs.length) (m : L) : RnS Lb Ob l k0 k1 k2 f g' n0 n1 n2 n3 N T g c n (qs.set i m) w ((((W.setCell ⟨g, i * 4, none⟩ (.int .i64 m.op)).setCell ⟨g, i * 4 + 1, none⟩ (.int .i64 m.to)).setCell ⟨g, i * 4 + 2, none⟩ (.int .i64 m.a)).setCell ⟨g, i * 4 + 3, none⟩ (.int .i64 m.b)) :=
  ⟨hp_set (hp_set (hp_set (hp_set h.bL (fun e => h.n1' e.symm) _) (fun e => h.n1' e.symm) _) (fun e => h.n1' e.symm) _) (fun e => h.n1' e.symm) _, hp_set (hp_set (hp_set (hp_set h.bO (fun e => h.n2' e.symm) _) (fun e => h.n2' e.symm) _) (fun e => h.n2' e.symm) _) (fun e => h.n2' e.symm) _, h.j.put hi m, h.n1', h.n2'⟩
theorem RnS.cells {Lb Ob : Nat} {l : L} {k0 k1 k2 : Int} {f g' : Nat} {n0 n1 n2 n3 : Int} {N T g c n : Nat} {qs : List L} {w W : World} (h : RnS Lb Ob l k0 k1 k2 f g' n0 n1 n2 n3 N T g c n qs w W) :
    W.cell? ⟨Lb, 0, none⟩ = some (.int .i64 l.op) ∧ W.cell? ⟨Lb, 1, none⟩ = some (.int .i64 l.to) ∧ W.cell? ⟨Lb, 2, none⟩ = some (.int .i64 l.a) ∧ W.cell? ⟨Lb, 3, none⟩ = some (.int .i64 l.b) ∧ W.cell? ⟨Ob, 0, none⟩ = some (.int .i64 k0) ∧ W.cell? ⟨Ob, 1, none⟩ = some (.int .i64 k1) ∧ W.cell? ⟨Ob, 2, none⟩ = some (.int .i64 k2) ∧
    W.cell? ⟨N, 0, none⟩ = some (.int .i64 n0) ∧ W.cell? ⟨N, 1, none⟩ = some (.int .i64 n1) ∧ W.cell? ⟨N, 2, none⟩ = some (.int .i64 n2) ∧ W.cell? ⟨N, 3, none⟩ = some (.int .i64 n3) :=
  ⟨hp_cell h.bL (by rfl), hp_cell h.bL (by rfl), hp_cell h.bL (by rfl), hp_cell h.bL (by rfl), hp_cell h.bO (by rfl), hp_cell h.bO (by rfl), hp_cell h.bO (by rfl), hp_cell h.j.bN (by rfl), hp_cell h.j.bN (by rfl), hp_cell h.j.bN (by rfl), hp_cell h.j.bN (by rfl)⟩

set_option maxRecDepth 100000 in
set_option maxHeartbeats 4000000 in
theorem rename_any (a b : Option Addr) (ca cb : Nat) (ps : List L) (nm : List Int) (w : World) (hp : LinesAt w a ps) (hn : IntsAt w b nm) (hm : ps.length ≤ 1000) (hm2 : nm.length ≤ 1000) :
    Calls Try.prog 22 #[.slice a ps.length ca, .slice b nm.length cb] w (GivesLinesE (rnP ps nm) (rnC ps nm) w) := by
  have HV := Lib.hid (validate_any a ca ps w hp)
  have HN := Lib.hid (fun w hn => validateNames_any b cb nm w hn hm2)
  by_cases hz : rnC ps nm = 0
  · obtain ⟨h1, h2⟩ := rnC_ok hz
    have h8 := (vp_ok h1).1
    have hli := (vp_ok h1).2
    have HE := Lib.hid hz
    have HP := Lib.hid (rnP_yes hz)
    have h4 := isOrd_len h2
    have HS := Lib.hid (fun w hn => stateOf_any b cb nm w h4 hn)
    have HC := Lib.hid (fun w hp => cloneLines_any a ca ps w hp hm)
    have HF := Lib.hid (show fe (vp ps) (nmC nm) = 0 from hz)
    have HAll := Lib.hid (renTo_all nm ps)
    rw [HP.out, HE.out]
    clear hz h1 h2
    obtain ⟨n0, n1, n2, n3, rfl⟩ := list4 h4
    have HS2 := Lib.hid (fun w hn => show Calls Try.prog 44 #[.slice b 4 cb] w (fun e w' => e = .returned (.agg #[.int .i64 n0, .int .i64 n1, .int .i64 n2, .int .i64 n3]) ∧ Below w.heap.size w w') from HS.out w hn)
    clear h4 HS
    go_enter Try.func22, Try.ntmps22
    go_wp2_with fail
    refine HV.out.mono ?_
    rintro e w1 ⟨rfl, hB1⟩
    go_wp2_with fail
    refine (HN.out _ (hn.below hB1 (Nat.le_refl _))).mono ?_
    rintro e w2 ⟨rfl, hB2⟩
    have hB := hB1.trans (hB2.mono hB1.size)
    clear hB1 hB2
    go_wp2_with fail
    refine (firstError_two _ _ _ _).mono ?_
    rintro e w3 ⟨rfl, rfl⟩
    rw [HF.out]
    have hB3 := hB.alloc hB.size (.cells #[.int .i64 (vp ps), .int .i64 (nmC [n0, n1, n2, n3])] 32)
    clear hB
    go_wp2_with fail
    refine (HS2.out _ (hn.below hB3 (Nat.le_refl _))).mono ?_
    rintro e w4 ⟨rfl, hB4⟩
    have hB5 := hB3.trans (hB4.mono hB3.size)
    clear hB3 hB4
    have hN4 := hB5.size
    go_upto_region 5 with fail
    go_cut [8] (fun s8 wx => ∃ T : Nat, s8 = .pointer (some ⟨T, 0, none⟩) ∧ w4.heap.size < wx.heap.size ∧ T < wx.heap.size ∧ wx.heap[w4.heap.size]? = some (.cells (iv [n0, n1, n2, n3]) 93 (0, 0)) ∧ wx.heap[T]? = some (.cells opsT 116 (0, 0)) ∧ Below w.heap.size w wx)
    case first =>
      go_wp2_with fail
      refine (operations_any _).mono ?_
      rintro e w5 ⟨rfl, rfl⟩
      go_wp2_with (refine wpList_store_row rfl 116 (.tmp 8) (.tmp 24) rfl _ opsT rfl rfl 116 _ (hp_new (by simp)) opsT_info rfl opsT_one ?_)
      go_meet
      refine ⟨_, rfl, by simp; omega, by simp, ?_, hp_row_same (hp_new (by simp)) _, below_setRow (((hB5.alloc hB5.size _).alloc (by simp; omega) _).alloc (by simp; omega) _) (by first | omega | (simp; omega)) _⟩
      refine hp_row ?_ (by simp; omega) _
      exact hp_alloc (hp_alloc (hp_new rfl))
    case rest =>
      clear hB5
      obtain ⟨T, rfl, hNl, hTl, hN, hT, hB⟩ := hcut
      generalize w4.heap.size = N at hN hNl
      go_wp2_with fail
      refine (HC.out _ (hp.below hB (Nat.le_refl _))).mono ?_
      intro e w6 hG
      obtain ⟨a6, c6, rfl, hown, hB6⟩ := hG
      have hB7 := hB.trans (hB6.mono hB.size)
      have hpos : ps = [] ∨ 0 < ps.length := by cases ps <;> simp
      rcases hpos with hnil | hpos
      · have HNil := Lib.hid hnil
        have hl0 : ps.length = 0 := by rw [hnil]; rfl
        have hlt : ¬ (0 : Int) < (ps.length : Int) := by omega
        have HO := Lib.hid (own_mono hown hB.size)
        have HM := Lib.hid (show ps.map (renL [n0, n1, n2, n3]) = ps by rw [hnil]; rfl)
        clear hown hnil hl0
        go_wp2_with fail
        go_loop [29] (fun s29 => s29 = .int .i64 0) (fun s29 => 0)
        case atStart => exact rfl
        case round =>
          obtain rfl := hrel
          go_wp2_with fail
          go_ret2
          rw [HM.out]
          exact ⟨a6, c6, rfl, HO.out, hB7⟩
      · obtain ⟨g, rfl⟩ := own_form hown hpos
        have hgl := own_base' hown
        have hI0 : RnJ N T g c6 ps.length [n0, n1, n2, n3] (renTo [n0, n1, n2, n3] ps 0) w w6 := ⟨hp_below hN hB6 hNl, hp_below hT hB6 hTl, own_mono hown hB.size, ⟨by omega, by omega⟩, hB7⟩
        clear hown hB6 hB7 hN hT hB
        go_wp2_with fail
        go_loopw [29] (fun s29 wr => ∃ k : Nat, k ≤ ps.length ∧ s29 = .int .i64 k ∧ RnJ N T g c6 ps.length [n0, n1, n2, n3] (renTo [n0, n1, n2, n3] ps k) w wr) (fun s29 _ => ps.length - (intOf s29).toNat)
        case atStart => exact ⟨0, Nat.zero_le _, rfl, hI0⟩
        case round =>
          clear hI0
          obtain ⟨k, hk, rfl, hI⟩ := hrel
          by_cases hlt : k < ps.length
          · obtain ⟨pb, po, l, rfl, hlb, hl, x0, x1, x2, x3⟩ := (hp.below hI.below (Nat.le_refl _)).at_ hlt
            have hln := hli l (mem_of_get hl)
            obtain ⟨k0, k1, k2, f, g', hrow⟩ := rowK_of hln [n0, n1, n2, n3]
            obtain ⟨op0, op7⟩ := isLn_op hln
            have HNx := Lib.hid (renTo_next (nm := [n0, n1, n2, n3]) hl)
            have HAt := Lib.hid (renTo_at (nm := [n0, n1, n2, n3]) hl)
            have hrl := renTo_length [n0, n1, n2, n3] ps k
            clear hl
            go_upto_region 9 with fail
            go_cut [10, 11] (fun s10 s11 wx => ∃ Lb : Nat, s10 = .int .i64 k ∧ s11 = .pointer (some ⟨Lb, 0, none⟩) ∧ N ≠ Lb ∧ T ≠ Lb ∧ g ≠ Lb ∧ wx.heap[Lb]? = some (.cells #[.int .i64 l.op, .int .i64 l.to, .int .i64 l.a, .int .i64 l.b] 43 (0, 0)) ∧ RnJ N T g c6 ps.length [n0, n1, n2, n3] (renTo [n0, n1, n2, n3] ps k) w wx)
            case first =>
              have l1 := hp_lt hI.bN
              have l2 := hp_lt hI.bT
              have l3 := own_lt hI.own
              have HI := Lib.hid hI
              clear hI
              go_wp2_with fail
              go_meet
              exact ⟨_, rfl, rfl, by omega, by omega, by omega, hp_new rfl, HI.out.alloc _⟩
            case rest =>
              clear hI x0 x1 x2 x3 hlb
              obtain ⟨Lb, rfl, rfl, nb1, nb2, nb3, hL, hI⟩ := hcut
              go_upto_region 10 with fail
              go_cut [12] (fun s12 wx => ∃ Ob : Nat, s12 = .pointer (some ⟨Ob, 0, none⟩) ∧ g ≠ Ob ∧ wx.heap[Ob]? = some (.cells #[.int .i64 k0, .int .i64 k1, .int .i64 k2, .func (.func f) #[] #[], .func (.func g') #[] #[]] 115 (0, 0)) ∧ wx.heap[Lb]? = some (.cells #[.int .i64 l.op, .int .i64 l.to, .int .i64 l.a, .int .i64 l.b] 43 (0, 0)) ∧ RnJ N T g c6 ps.length [n0, n1, n2, n3] (renTo [n0, n1, n2, n3] ps k) w wx)
              case first =>
                have e0 := hp_cell hL (j := 0) (by rfl)
                have HG := Lib.hid (range_of hI.bT hrow.fcells)
                have l3 := own_lt hI.own
                have HI := Lib.hid hI
                have HLb := Lib.hid hL
                clear hI hL
                go_wp2_with (refine wpList_load_mid rfl 115 (.tmp 36) rfl T (l.op.toNat * 5) rfl _ _ HG.out Try.underlying115 rfl info_op5 ?_)
                go_meet
                exact ⟨_, rfl, by omega, hp_new rfl, hp_alloc HLb.out, HI.out.alloc _⟩
              case rest =>
                clear hI hL
                obtain ⟨Ob, rfl, nb4, hO, hL, hI⟩ := hcut
                obtain ⟨qa, qb, qc, qd⟩ := lc_get HAt.out
                have a0 := hp_cell hL (j := 0) (by rfl)
                have a1 := hp_cell hL (j := 1) (by rfl)
                have a2 := hp_cell hL (j := 2) (by rfl)
                have a3 := hp_cell hL (j := 3) (by rfl)
                have o0 := hp_cell hO (j := 0) (by rfl)
                have o1 := hp_cell hO (j := 1) (by rfl)
                have o2 := hp_cell hO (j := 2) (by rfl)
                have m0 := hp_cell hI.bN (j := 0) (v := .int .i64 n0) (by rfl)
                have m1 := hp_cell hI.bN (j := 1) (v := .int .i64 n1) (by rfl)
                have m2 := hp_cell hI.bN (j := 2) (v := .int .i64 n2) (by rfl)
                have m3 := hp_cell hI.bN (j := 3) (v := .int .i64 n3) (by rfl)
                have q0 := own_cell hI.own qa
                have q1 := own_cell hI.own qb
                have q2 := own_cell hI.own qc
                have q3 := own_cell hI.own qd
                have f0 := own_free hI.own (k * 4)
                have f1 := own_free hI.own (k * 4 + 1)
                have f2 := own_free hI.own (k * 4 + 2)
                have f3 := own_free hI.own (k * 4 + 3)
                obtain ⟨m, hm'⟩ : ∃ m, m = renL [n0, n1, n2, n3] l := ⟨_, rfl⟩
                have HMo := Lib.hid (show m.op = l.op by rw [hm']; rfl)
                have C0 := Lib.hid (fun W => by have c := in_exact k0 l.to [n0, n1, n2, n3] W rfl hrow.fk0 hrow.r0; rw [hrow.e0, ← hm'] at c; exact c)
                have C1 := Lib.hid (fun W => by have c := in_exact k1 l.a [n0, n1, n2, n3] W rfl hrow.fk1 hrow.r1; rw [hrow.e1, ← hm'] at c; exact c)
                have C2 := Lib.hid (fun W => by have c := in_exact k2 l.b [n0, n1, n2, n3] W rfl hrow.fk2 hrow.r2; rw [hrow.e2, ← hm'] at c; exact c)
                rw [← hm'] at HNx
                have HI := Lib.hid hI
                have i0 : (0 : Int) ≤ (k : Int) := by omega
                have i1 : (k : Int) < (ps.length : Int) := by omega
                have HR := Lib.hid hrow
                have HS0 := Lib.hid (show RnS Lb Ob l k0 k1 k2 f g' n0 n1 n2 n3 N T g c6 ps.length (renTo [n0, n1, n2, n3] ps k) w wc from ⟨hL, hO, hI, nb3, nb4⟩)
                have HOne := Lib.hid (show (#[.int .i64 l.op, .int .i64 m.to, .int .i64 m.a, .int .i64 m.b] : Array Value).all (·.oneCell') = true by simp [Value.oneCell'])
                have HR := Lib.hid hrow
                clear hI hL hO qa qb qc qd hrow hm'
                clear a0 a1 a2 a3 o0 o1 o2 m0 m1 m2 m3 q0 q1 q2 q3 f0 f1 f2 f3
                go_wp2_with fail
                refine wp_region_held_drew (S := fun W => ∃ qs, RnS Lb Ob l k0 k1 k2 f g' n0 n1 n2 n3 N T g c6 ps.length qs w W) (by kernel_rfl) ?_ (fun hHeld => ?_)
                · exact ⟨_, HS0.out.drew⟩
                have HQ := Lib.hid HS0.out.drew
                refine wpAnyH_take (i := 0) (oi := ?oi00_1) (v := ?v00_1) ?hi00_1 (by kernel_rfl) (by kernel_rfl) (by kernel_rfl) ?hq00_1 ?hy00_1 hHeld ?rest00_1
                case hi00_1 => exact rfl
                case hq00_1 => exact fun _ _ _ h => h
                case hy00_1 =>
                  refine Or.inl ⟨by rfl, ?_⟩
                  intro w hSw
                  obtain ⟨qs', hSw⟩ := hSw
                  obtain ⟨a0, a1, a2, a3, o0, o1, o2, m0, m1, m2, m3⟩ := hSw.cells
                  go_simp
                  (try with_reducible rfl)
                try simp only [Act.put, List.getElem_toArray, List.getElem_cons_succ, List.getElem_cons_zero, List.setIfInBounds_toArray, List.set_cons_zero, List.set_cons_succ]
                refine wpAnyH_take (i := 1) (oi := ?oi01_2) (v := ?v01_2) ?hi01_2 (by kernel_rfl) (by kernel_rfl) (by kernel_rfl) ?hq01_2 ?hy01_2 hHeld ?rest01_2
                case hi01_2 => exact rfl
                case hq01_2 => exact fun _ _ _ h => h
                case hy01_2 =>
                  refine Or.inl ⟨by rfl, ?_⟩
                  intro w hSw
                  obtain ⟨qs', hSw⟩ := hSw
                  obtain ⟨a0, a1, a2, a3, o0, o1, o2, m0, m1, m2, m3⟩ := hSw.cells
                  go_simp
                  (try with_reducible rfl)
                try simp only [Act.put, List.getElem_toArray, List.getElem_cons_succ, List.getElem_cons_zero, List.setIfInBounds_toArray, List.set_cons_zero, List.set_cons_succ]
                refine wpAnyH_take (i := 2) (oi := ?oi02_3) (v := ?v02_3) ?hi02_3 (by kernel_rfl) (by kernel_rfl) (by kernel_rfl) ?hq02_3 ?hy02_3 hHeld ?rest02_3
                case hi02_3 => exact rfl
                case hq02_3 => exact fun _ _ _ h => h
                case hy02_3 =>
                  refine Or.inl ⟨by rfl, ?_⟩
                  intro w hSw
                  obtain ⟨qs', hSw⟩ := hSw
                  obtain ⟨a0, a1, a2, a3, o0, o1, o2, m0, m1, m2, m3⟩ := hSw.cells
                  go_simp
                  (try with_reducible rfl)
                try simp only [Act.put, List.getElem_toArray, List.getElem_cons_succ, List.getElem_cons_zero, List.setIfInBounds_toArray, List.set_cons_zero, List.set_cons_succ]
                refine wpAnyH_take (i := 3) (oi := ?oi03_4) (v := ?v03_4) ?hi03_4 (by kernel_rfl) (by kernel_rfl) (by kernel_rfl) ?hq03_4 ?hy03_4 hHeld ?rest03_4
                case hi03_4 => exact rfl
                case hq03_4 => exact fun _ _ _ h => h
                case hy03_4 =>
                  refine Or.inl ⟨by rfl, ?_⟩
                  intro w hSw
                  obtain ⟨qs', hSw⟩ := hSw
                  obtain ⟨a0, a1, a2, a3, o0, o1, o2, m0, m1, m2, m3⟩ := hSw.cells
                  go_simp
                  (try with_reducible rfl)
                try simp only [Act.put, List.getElem_toArray, List.getElem_cons_succ, List.getElem_cons_zero, List.setIfInBounds_toArray, List.set_cons_zero, List.set_cons_succ]
                refine wpAnyH_take (i := 4) (oi := ?oi04_5) (v := ?v04_5) ?hi04_5 (by kernel_rfl) (by kernel_rfl) (by kernel_rfl) ?hq04_5 ?hy04_5 hHeld ?rest04_5
                case hi04_5 => exact rfl
                case hq04_5 => exact fun _ _ _ h => h
                case hy04_5 =>
                  refine Or.inl ⟨by rfl, ?_⟩
                  intro w hSw
                  obtain ⟨qs', hSw⟩ := hSw
                  obtain ⟨a0, a1, a2, a3, o0, o1, o2, m0, m1, m2, m3⟩ := hSw.cells
                  go_simp
                  (try with_reducible rfl)
                try simp only [Act.put, List.getElem_toArray, List.getElem_cons_succ, List.getElem_cons_zero, List.setIfInBounds_toArray, List.set_cons_zero, List.set_cons_succ]
                refine wpAnyH_take (i := 5) (oi := ?oi05_6) (v := ?v05_6) ?hi05_6 (by kernel_rfl) (by kernel_rfl) (by kernel_rfl) ?hq05_6 ?hy05_6 hHeld ?rest05_6
                case hi05_6 => exact rfl
                case hq05_6 => exact fun _ _ _ h => h
                case hy05_6 =>
                  refine Or.inl ⟨by rfl, ?_⟩
                  intro w hSw
                  obtain ⟨qs', hSw⟩ := hSw
                  obtain ⟨a0, a1, a2, a3, o0, o1, o2, m0, m1, m2, m3⟩ := hSw.cells
                  go_simp
                  (try with_reducible rfl)
                try simp only [Act.put, List.getElem_toArray, List.getElem_cons_succ, List.getElem_cons_zero, List.setIfInBounds_toArray, List.set_cons_zero, List.set_cons_succ]
                refine wpAnyH_take (i := 6) (oi := ?oi06_7) (v := ?v06_7) ?hi06_7 (by kernel_rfl) (by kernel_rfl) (by kernel_rfl) ?hq06_7 ?hy06_7 hHeld ?rest06_7
                case hi06_7 => exact rfl
                case hq06_7 => exact fun _ _ _ h => h
                case hy06_7 =>
                  refine Or.inl ⟨by rfl, ?_⟩
                  intro w hSw
                  obtain ⟨qs', hSw⟩ := hSw
                  obtain ⟨a0, a1, a2, a3, o0, o1, o2, m0, m1, m2, m3⟩ := hSw.cells
                  go_simp
                  (try with_reducible rfl)
                try simp only [Act.put, List.getElem_toArray, List.getElem_cons_succ, List.getElem_cons_zero, List.setIfInBounds_toArray, List.set_cons_zero, List.set_cons_succ]
                refine wpAnyH_take (i := 7) (oi := ?oi07_8) (v := ?v07_8) ?hi07_8 (by kernel_rfl) (by kernel_rfl) (by kernel_rfl) ?hq07_8 ?hy07_8 hHeld ?rest07_8
                case hi07_8 => exact rfl
                case hq07_8 => exact fun _ _ _ h => h
                case hy07_8 =>
                  refine Or.inl ⟨by rfl, ?_⟩
                  intro w hSw
                  obtain ⟨qs', hSw⟩ := hSw
                  obtain ⟨a0, a1, a2, a3, o0, o1, o2, m0, m1, m2, m3⟩ := hSw.cells
                  go_simp
                  (try with_reducible rfl)
                try simp only [Act.put, List.getElem_toArray, List.getElem_cons_succ, List.getElem_cons_zero, List.setIfInBounds_toArray, List.set_cons_zero, List.set_cons_succ]
                refine wpAnyH_take (i := 8) (oi := ?oi08_9) (v := ?v08_9) ?hi08_9 (by kernel_rfl) (by kernel_rfl) (by kernel_rfl) ?hq08_9 ?hy08_9 hHeld ?rest08_9
                case hi08_9 => exact rfl
                case hq08_9 => exact fun _ _ _ h => h
                case hy08_9 =>
                  refine Or.inl ⟨by rfl, ?_⟩
                  intro w hSw
                  obtain ⟨qs', hSw⟩ := hSw
                  obtain ⟨a0, a1, a2, a3, o0, o1, o2, m0, m1, m2, m3⟩ := hSw.cells
                  go_simp
                  (try with_reducible rfl)
                try simp only [Act.put, List.getElem_toArray, List.getElem_cons_succ, List.getElem_cons_zero, List.setIfInBounds_toArray, List.set_cons_zero, List.set_cons_succ]
                refine wpAnyH_take (i := 10) (oi := ?oi10_10) (v := ?v10_10) ?hi10_10 (by kernel_rfl) (by kernel_rfl) (by kernel_rfl) ?hq10_10 ?hy10_10 hHeld ?rest10_10
                case hi10_10 => exact rfl
                case hq10_10 => exact fun _ _ _ h => h
                case hy10_10 =>
                  refine Or.inl ⟨by rfl, ?_⟩
                  intro w hSw
                  obtain ⟨qs', hSw⟩ := hSw
                  obtain ⟨a0, a1, a2, a3, o0, o1, o2, m0, m1, m2, m3⟩ := hSw.cells
                  go_simp
                  (try with_reducible rfl)
                try simp only [Act.put, List.getElem_toArray, List.getElem_cons_succ, List.getElem_cons_zero, List.setIfInBounds_toArray, List.set_cons_zero, List.set_cons_succ]
                refine wpAnyH_take (i := 11) (oi := ?oi11_11) (v := ?v11_11) ?hi11_11 (by kernel_rfl) (by kernel_rfl) (by kernel_rfl) ?hq11_11 ?hy11_11 hHeld ?rest11_11
                case hi11_11 => exact rfl
                case hq11_11 => exact fun _ _ _ h => h
                case hy11_11 =>
                  refine Or.inl ⟨by rfl, ?_⟩
                  intro w hSw
                  obtain ⟨qs', hSw⟩ := hSw
                  obtain ⟨a0, a1, a2, a3, o0, o1, o2, m0, m1, m2, m3⟩ := hSw.cells
                  go_simp
                  (try with_reducible rfl)
                try simp only [Act.put, List.getElem_toArray, List.getElem_cons_succ, List.getElem_cons_zero, List.setIfInBounds_toArray, List.set_cons_zero, List.set_cons_succ]
                refine wpAnyH_take (i := 12) (oi := ?oi12_12) (v := ?v12_12) ?hi12_12 (by kernel_rfl) (by kernel_rfl) (by kernel_rfl) ?hq12_12 ?hy12_12 hHeld ?rest12_12
                case hi12_12 => exact rfl
                case hq12_12 => exact fun _ _ _ h => h
                case hy12_12 =>
                  refine Or.inl ⟨by rfl, ?_⟩
                  intro w hSw
                  obtain ⟨qs', hSw⟩ := hSw
                  obtain ⟨a0, a1, a2, a3, o0, o1, o2, m0, m1, m2, m3⟩ := hSw.cells
                  go_simp
                  (try with_reducible rfl)
                try simp only [Act.put, List.getElem_toArray, List.getElem_cons_succ, List.getElem_cons_zero, List.setIfInBounds_toArray, List.set_cons_zero, List.set_cons_succ]
                refine wpAnyH_take (i := 13) (oi := ?oi13_13) (v := ?v13_13) ?hi13_13 (by kernel_rfl) (by kernel_rfl) (by kernel_rfl) ?hq13_13 ?hy13_13 hHeld ?rest13_13
                case hi13_13 => exact rfl
                case hq13_13 => exact fun _ _ _ h => h
                case hy13_13 =>
                  refine Or.inl ⟨by rfl, ?_⟩
                  intro w hSw
                  obtain ⟨qs', hSw⟩ := hSw
                  obtain ⟨a0, a1, a2, a3, o0, o1, o2, m0, m1, m2, m3⟩ := hSw.cells
                  go_simp
                  (try with_reducible rfl)
                try simp only [Act.put, List.getElem_toArray, List.getElem_cons_succ, List.getElem_cons_zero, List.setIfInBounds_toArray, List.set_cons_zero, List.set_cons_succ]
                refine wpAnyH_take (i := 14) (oi := ?oi14_14) (v := ?v14_14) ?hi14_14 (by kernel_rfl) (by kernel_rfl) (by kernel_rfl) ?hq14_14 ?hy14_14 hHeld ?rest14_14
                case hi14_14 => exact rfl
                case hq14_14 => exact fun _ _ _ h => h
                case hy14_14 =>
                  refine Or.inl ⟨by rfl, ?_⟩
                  intro w hSw
                  obtain ⟨qs', hSw⟩ := hSw
                  obtain ⟨a0, a1, a2, a3, o0, o1, o2, m0, m1, m2, m3⟩ := hSw.cells
                  go_simp
                  (try with_reducible rfl)
                try simp only [Act.put, List.getElem_toArray, List.getElem_cons_succ, List.getElem_cons_zero, List.setIfInBounds_toArray, List.set_cons_zero, List.set_cons_succ]
                refine wpAnyH_take (i := 16) (oi := ?oi16_15) (v := ?v16_15) ?hi16_15 (by kernel_rfl) (by kernel_rfl) (by kernel_rfl) ?hq16_15 ?hy16_15 hHeld ?rest16_15
                case hi16_15 => exact rfl
                case hq16_15 => exact fun _ _ _ h => h
                case hy16_15 =>
                  refine Or.inl ⟨by rfl, ?_⟩
                  intro w hSw
                  obtain ⟨qs', hSw⟩ := hSw
                  obtain ⟨a0, a1, a2, a3, o0, o1, o2, m0, m1, m2, m3⟩ := hSw.cells
                  go_simp
                  (try with_reducible rfl)
                try simp only [Act.put, List.getElem_toArray, List.getElem_cons_succ, List.getElem_cons_zero, List.setIfInBounds_toArray, List.set_cons_zero, List.set_cons_succ]
                refine wpAnyH_take (i := 17) (oi := ?oi17_16) (v := ?v17_16) ?hi17_16 (by kernel_rfl) (by kernel_rfl) (by kernel_rfl) ?hq17_16 ?hy17_16 hHeld ?rest17_16
                case hi17_16 => exact rfl
                case hq17_16 => exact fun _ _ _ h => h
                case hy17_16 =>
                  refine Or.inl ⟨by rfl, ?_⟩
                  intro w hSw
                  obtain ⟨qs', hSw⟩ := hSw
                  obtain ⟨a0, a1, a2, a3, o0, o1, o2, m0, m1, m2, m3⟩ := hSw.cells
                  go_simp
                  (try with_reducible rfl)
                try simp only [Act.put, List.getElem_toArray, List.getElem_cons_succ, List.getElem_cons_zero, List.setIfInBounds_toArray, List.set_cons_zero, List.set_cons_succ]
                refine wpAnyH_take (i := 18) (oi := ?oi18_17) (v := ?v18_17) ?hi18_17 (by kernel_rfl) (by kernel_rfl) (by kernel_rfl) ?hq18_17 ?hy18_17 hHeld ?rest18_17
                case hi18_17 => exact rfl
                case hq18_17 => exact fun _ _ _ h => h
                case hy18_17 =>
                  refine Or.inl ⟨by rfl, ?_⟩
                  intro w hSw
                  obtain ⟨qs', hSw⟩ := hSw
                  obtain ⟨a0, a1, a2, a3, o0, o1, o2, m0, m1, m2, m3⟩ := hSw.cells
                  go_simp
                  (try with_reducible rfl)
                try simp only [Act.put, List.getElem_toArray, List.getElem_cons_succ, List.getElem_cons_zero, List.setIfInBounds_toArray, List.set_cons_zero, List.set_cons_succ]
                refine wpAnyH_take (i := 19) (oi := ?oi19_18) (v := ?v19_18) ?hi19_18 (by kernel_rfl) (by kernel_rfl) (by kernel_rfl) ?hq19_18 ?hy19_18 hHeld ?rest19_18
                case hi19_18 => exact rfl
                case hq19_18 => exact fun _ _ _ h => h
                case hy19_18 =>
                  refine Or.inl ⟨by rfl, ?_⟩
                  intro w hSw
                  obtain ⟨qs', hSw⟩ := hSw
                  obtain ⟨a0, a1, a2, a3, o0, o1, o2, m0, m1, m2, m3⟩ := hSw.cells
                  go_simp
                  (try with_reducible rfl)
                try simp only [Act.put, List.getElem_toArray, List.getElem_cons_succ, List.getElem_cons_zero, List.setIfInBounds_toArray, List.set_cons_zero, List.set_cons_succ]
                refine wpAnyH_take (i := 20) (oi := ?oi20_19) (v := ?v20_19) ?hi20_19 (by kernel_rfl) (by kernel_rfl) (by kernel_rfl) ?hq20_19 ?hy20_19 hHeld ?rest20_19
                case hi20_19 => exact rfl
                case hq20_19 => exact fun _ _ _ h => h
                case hy20_19 =>
                  refine Or.inl ⟨by rfl, ?_⟩
                  intro w hSw
                  obtain ⟨qs', hSw⟩ := hSw
                  obtain ⟨a0, a1, a2, a3, o0, o1, o2, m0, m1, m2, m3⟩ := hSw.cells
                  go_simp
                  (try with_reducible rfl)
                try simp only [Act.put, List.getElem_toArray, List.getElem_cons_succ, List.getElem_cons_zero, List.setIfInBounds_toArray, List.set_cons_zero, List.set_cons_succ]
                refine wpAnyH_ready (rs := [9]) (by kernel_rfl) (by simp) ?_
                refine AllReadyH.cons (o := ?or20_9) ?hr20_9 ?kr20_9 AllReadyH.nil
                case hr20_9 => exact rfl
                case kr20_9 =>
                  intro K hK
                  go_simp
                  refine (C0.out _).mono ?_
                  rintro e w' ⟨rfl, rfl⟩
                  have HQ := Lib.hid (HQ.out.alloc (.cells (iv [n0, n1, n2, n3]) 93))
                  refine hK.out _ _ ⟨_, HQ.out⟩ (fun hHeld => ?_)
                  clear hK K
                  try simp only [Act.put, List.getElem_toArray, List.getElem_cons_succ, List.getElem_cons_zero, List.setIfInBounds_toArray, List.set_cons_zero, List.set_cons_succ]
                  refine wpAnyH_ready (rs := [15]) (by kernel_rfl) (by simp) ?_
                  refine AllReadyH.cons (o := ?or21_15) ?hr21_15 ?kr21_15 AllReadyH.nil
                  case hr21_15 => exact rfl
                  case kr21_15 =>
                    intro K hK
                    go_simp
                    refine (C1.out _).mono ?_
                    rintro e w' ⟨rfl, rfl⟩
                    have HQ := Lib.hid (HQ.out.alloc (.cells (iv [n0, n1, n2, n3]) 93))
                    refine hK.out _ _ ⟨_, HQ.out⟩ (fun hHeld => ?_)
                    clear hK K
                    try simp only [Act.put, List.getElem_toArray, List.getElem_cons_succ, List.getElem_cons_zero, List.setIfInBounds_toArray, List.set_cons_zero, List.set_cons_succ]
                    refine wpAnyH_ready (rs := [21]) (by kernel_rfl) (by simp) ?_
                    refine AllReadyH.cons (o := ?or22_21) ?hr22_21 ?kr22_21 AllReadyH.nil
                    case hr22_21 => exact rfl
                    case kr22_21 =>
                      intro K hK
                      go_simp
                      refine (C2.out _).mono ?_
                      rintro e w' ⟨rfl, rfl⟩
                      have HQ := Lib.hid (HQ.out.alloc (.cells (iv [n0, n1, n2, n3]) 93))
                      refine hK.out _ _ ⟨_, HQ.out⟩ (fun hHeld => ?_)
                      clear hK K
                      try simp only [Act.put, List.getElem_toArray, List.getElem_cons_succ, List.getElem_cons_zero, List.setIfInBounds_toArray, List.set_cons_zero, List.set_cons_succ]
                      refine wpAnyH_take (i := 22) (oi := ?oi22_23) (v := ?v22_23) ?hi22_23 (by kernel_rfl) (by kernel_rfl) (by kernel_rfl) ?hq22_23 ?hy22_23 hHeld ?rest22_23
                      case hi22_23 => exact rfl
                      case hq22_23 => exact fun _ _ _ h => h
                      case hy22_23 =>
                        refine Or.inl ⟨by rfl, ?_⟩
                        intro w hSw
                        go_simp
                        (try with_reducible rfl)
                      try simp only [Act.put, List.getElem_toArray, List.getElem_cons_succ, List.getElem_cons_zero, List.setIfInBounds_toArray, List.set_cons_zero, List.set_cons_succ]
                      refine wpAnyH_take (i := 23) (oi := ?oi23_24) (v := ?v23_24) ?hi23_24 (by kernel_rfl) (by kernel_rfl) (by kernel_rfl) ?hq23_24 ?hy23_24 hHeld ?rest23_24
                      case hi23_24 => exact rfl
                      case hq23_24 => exact fun _ _ _ h => h
                      case hy23_24 =>
                        refine Or.inl ⟨by rfl, ?_⟩
                        intro w hSw
                        go_simp
                        (try with_reducible rfl)
                      try simp only [Act.put, List.getElem_toArray, List.getElem_cons_succ, List.getElem_cons_zero, List.setIfInBounds_toArray, List.set_cons_zero, List.set_cons_succ]
                      refine wpAnyH_ready (rs := [24]) (by kernel_rfl) (by simp) ?_
                      refine AllReadyH.cons (o := ?or25_24) ?hr25_24 ?kr25_24 AllReadyH.nil
                      case hr25_24 => exact rfl
                      intro K hK
                      rw [if_pos (by rfl)]
                      refine wp_store_mid 43 (.tmp 61) (.tmp 60) rfl g (k * 4) #[.int .i64 l.op, .int .i64 m.to, .int .i64 m.a, .int .i64 m.b] rfl rfl (own_there HQ.out.j.own (by rw [hrl]; exact hlt)) info_ln HOne.out ?_
                      have hE := HQ.out.j.put (i := k) (by rw [hrl]; exact hlt) m
                      have hP := HQ.out.put (i := k) (by rw [hrl]; exact hlt) m
                      rw [HMo.out] at hE hP
                      rw [← HNx.out] at hE
                      have HE := Lib.hid hE
                      refine hK.out _ _ ⟨_, hP⟩ (fun hHeld2 => ?_)
                      clear hK K hE hP hHeld hHeld2
                      try simp only [Act.put, List.getElem_toArray, List.getElem_cons_succ, List.getElem_cons_zero, List.setIfInBounds_toArray, List.set_cons_zero, List.set_cons_succ]
                      refine wpAnyH_done (by kernel_rfl) ?_ _
                      go_wp2_with fail
                      go_roundw
                      case rel => exact ⟨k + 1, by omega, by go_num, HE.out⟩
                      case measure => simp [intOf]; omega
          · have hke : k = ps.length := by omega
            have HI := Lib.hid (show RnJ N T g c6 ps.length [n0, n1, n2, n3] (ps.map (renL [n0, n1, n2, n3])) w wr by rw [hke, HAll.out] at hI; exact hI)
            clear hI hke
            go_wp2_with fail
            go_ret2
            exact ⟨_, _, by rw [List.length_map]; rfl, by rw [List.length_map]; exact HI.out.own, HI.out.below⟩
  · have HP := Lib.hid (rnP_no hz)
    rw [HP.out]
    have HF := Lib.hid (show fe (vp ps) (nmC nm) = rnC ps nm from rfl)
    have hz1 : (rnC ps nm != 0) = true := by simpa using hz
    have hz2 : (rnC ps nm == 0) = false := by simpa using hz
    generalize rnC ps nm = c at HF hz1 hz2
    clear hz HP
    go_enter Try.func22, Try.ntmps22
    go_wp2_with fail
    refine HV.out.mono ?_
    rintro e w1 ⟨rfl, hB1⟩
    go_wp2_with fail
    refine (HN.out _ (hn.below hB1 (Nat.le_refl _))).mono ?_
    rintro e w2 ⟨rfl, hB2⟩
    have hB := hB1.trans (hB2.mono hB1.size)
    clear hB1 hB2
    go_wp2_with fail
    refine (firstError_two _ _ _ _).mono ?_
    rintro e w3 ⟨rfl, rfl⟩
    rw [HF.out]
    have hB3 := hB.alloc hB.size (.cells #[.int .i64 (vp ps), .int .i64 (nmC nm)] 32)
    clear hB
    go_wp2_with fail
    go_ret2
    exact givesLinesE_nil hB3

end Go.Proofs.Ytmideaancmpafac
