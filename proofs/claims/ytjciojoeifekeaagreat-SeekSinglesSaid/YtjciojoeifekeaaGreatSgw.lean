/- Several texts in one. -/
import Derived.Test.YtjciojoeifekeaaGreatSgC
import Derived.Test.YtjciojoeifekeaaGreatSal
import Derived.Test.YtjciojoeifekeaaGreatRfx
import Derived.Deep.RegionHeld
import Derived.Test.YtjciojoeifekeaaGreatLng
import Derived.Test.YtjciojoeifekeaaGreatMny
/- The example of the statements about search. -/
set_option linter.unusedVariables false
set_option linter.unusedSimpArgs false
namespace Go.Proofs.YtjciojoeifekeaaGreat
open Go.RowKit Go.Shelf Tinker
def s5P : List L := [⟨1, 0, 3, 0⟩, ⟨3, 0, 0, 0⟩]
def s5T : List T := [⟨[0, 0, 0, 0], 0, 8⟩]
theorem s5_lines (w : World) (t : TypeId) : LinesAt (w.alloc (.cells #[.int .i64 1, .int .i64 0, .int .i64 3, .int .i64 0, .int .i64 3, .int .i64 0, .int .i64 0, .int .i64 0] t)) (some ⟨w.heap.size, 0, none⟩) s5P :=
  .inr ⟨w.heap.size, 0, rfl, by simp, fun j l hj => by
    match j, hj with
    | 0, hj => simp [s5P] at hj; subst hj; exact ⟨hp_cell (hp_new rfl) rfl, hp_cell (hp_new rfl) rfl, hp_cell (hp_new rfl) rfl, hp_cell (hp_new rfl) rfl⟩
    | 1, hj => simp [s5P] at hj; subst hj; exact ⟨hp_cell (hp_new rfl) rfl, hp_cell (hp_new rfl) rfl, hp_cell (hp_new rfl) rfl, hp_cell (hp_new rfl) rfl⟩
    | j + 2, hj => simp [s5P] at hj⟩
theorem s5_tests {w : World} {n : Nat} {t : TypeId} {m : Nat} (hm : w.heap.size = m) (h : IntsAt w (some ⟨n, 0, none⟩) [0, 0, 0, 0]) : TestsAt (w.alloc (.cells #[.slice (some ⟨n, 0, none⟩) 4 4, .int .i64 0, .int .i64 8] t)) (some ⟨m, 0, none⟩) s5T := by
  subst hm
  refine .inr ⟨w.heap.size, 0, rfl, by simp, fun j t' hj' => ?_⟩
  match j, hj' with
  | 0, hj' => simp [s5T] at hj'; subst hj'; exact ⟨_, 4, hp_cell (hp_new rfl) rfl, hp_cell (hp_new rfl) rfl, hp_cell (hp_new rfl) rfl, h.below ((Below.refl _ _).alloc (Nat.le_refl _) _) (Nat.le_refl _)⟩
  | j + 1, hj' => simp [s5T] at hj'
theorem s5_ints (w : World) : IntsAt (w.alloc (.cells #[.int .i64 0, .int .i64 0, .int .i64 0, .int .i64 0] 3)) (some ⟨w.heap.size, 0, none⟩) [0, 0, 0, 0] :=
  .inr ⟨w.heap.size, 0, rfl, by simp, fun j n hj => by
    match j, hj with
    | 0, hj => simp at hj; subst hj; exact hp_cell (hp_new rfl) rfl
    | 1, hj => simp at hj; subst hj; exact hp_cell (hp_new rfl) rfl
    | 2, hj => simp at hj; subst hj; exact hp_cell (hp_new rfl) rfl
    | 3, hj => simp at hj; subst hj; exact hp_cell (hp_new rfl) rfl
    | j + 4, hj => simp at hj⟩

def s5L : List L := [⟨0, 0, 0, 0⟩, ⟨1, 0, 2, 0⟩, ⟨1, 0, 4, 0⟩, ⟨1, 1, 3, 0⟩, ⟨1, 2, 3, 0⟩, ⟨1, 3, 3, 0⟩]
theorem s5_1 : (if isLn ⟨1, 0, 3, 0⟩ = true then tmpl ⟨1, 0, 3, 0⟩ else []) = s5L := by kernel_rfl
theorem s5_2 : vl ⟨1, 0, 3, 0⟩ = 0 := by kernel_rfl
theorem s5_3 : skC s5P s5T 0 = 0 := by kernel_rfl
def s5E : E := ⟨0, ⟨1, 0, 4, 0⟩⟩
/-- The edits of the example, cheaply reckoned. -/
def s5X (i : Nat) : List E := (allL.filter fun m => nearB (lnD s5P i) m && !eqL m (lnD s5P i)).map fun m => ⟨(i : Int), m⟩
theorem s5_4 : edL s5P 0 = s5X 0 ++ s5X 1 := by
  have h : ∀ i, (cndL s5P i 0).map (fun m => (⟨(i : Int), m⟩ : E)) = s5X i := fun i => by
    unfold s5X
    rw [cnd_filter]
    rfl
  show edK s5P 0 2 = _
  rw [edK_succ, edK_succ, h, h]
  rfl
theorem s5_5 : smX s5P s5T (s5X 0 ++ s5X 1) = some (s5E, 1) := by kernel_rfl
theorem s5_6 : sgO s5P s5T 0 = some (s5E, 1) := by
  unfold sgO
  rw [if_pos s5_3, s5_4, s5_5]

set_option maxRecDepth 100000 in
set_option maxHeartbeats 2000000 in
theorem sane5_true (w : World) : Calls Tryz.prog 13 #[] w fun e w' => e = .returned (.bool true) ∧ Below w.heap.size w w' := by
  have H1 := Lib.hid (fun w => templatesE_any ⟨1, 0, 3, 0⟩ w)
  have H2 := Lib.hid (fun (b g : Addr) (w : World) (h1 : LinesAt w (some b) s5P) (h2 : TestsAt w (some g) s5T) => sSingle_any (some b) (some g) 2 1 s5P s5T 0 w h1 h2 (by decide) (by decide) (by decide))
  rw [s5_1, s5_2] at H1
  rw [s5_6, s5_3] at H2
  rw [show bsE (some (s5E, 1)) = s5E from rfl, show (some (s5E, (1 : Int))).isSome = true from rfl, show s5P.length = 2 from rfl, show s5T.length = 1 from rfl, show eV s5E = #[.int .i64 0, .int .i64 1, .int .i64 0, .int .i64 4, .int .i64 0] from rfl] at H2
  have HL6 := Lib.hid (show s5L.length = 6 from rfl)
  have HL0 := Lib.hid (show s5L[0]? = some (⟨0, 0, 0, 0⟩ : L) from rfl)
  unfold lv at H1
  generalize s5L = TL at *
  go_enter Tryz.func13, Tryz.ntmps13
  go_wp2_with fail
  refine (H1.out _).mono ?_
  rintro e w1 ⟨a1, k1, rfl, hq, hB⟩
  obtain ⟨g, rfl⟩ := own_form hq (by rw [HL6.out]; decide)
  obtain ⟨b', off', l0, e', hlb, hl0, c0, c1, c2, c3⟩ := (lines_of_own hq).1.at_ (k := 0) (by rw [HL6.out]; decide)
  injection e' with e'
  injection e' with e1 e2
  subst e1 e2
  rw [HL0.out] at hl0
  injection hl0 with hl0
  subst hl0
  have hL := s5_lines w1 23
  have hB1 := (Below.refl w1.heap.size w1).alloc (Nat.le_refl _) (.cells #[.int .i64 1, .int .i64 0, .int .i64 3, .int .i64 0, .int .i64 3, .int .i64 0, .int .i64 0, .int .i64 0] 23)
  obtain ⟨W1, hW1⟩ : ∃ W, W = w1.alloc (.cells #[.int .i64 1, .int .i64 0, .int .i64 3, .int .i64 0, .int .i64 3, .int .i64 0, .int .i64 0, .int .i64 0] 23) := ⟨_, rfl⟩
  rw [← hW1] at hL hB1
  have hsz1 : W1.heap.size = w1.heap.size + 1 := by rw [hW1]; simp
  have hI := s5_ints W1
  have hB2 := (Below.refl W1.heap.size W1).alloc (Nat.le_refl _) (.cells #[.int .i64 0, .int .i64 0, .int .i64 0, .int .i64 0] 3)
  obtain ⟨W2, hW2⟩ : ∃ W, W = W1.alloc (.cells #[.int .i64 0, .int .i64 0, .int .i64 0, .int .i64 0] 3) := ⟨_, rfl⟩
  rw [← hW2] at hI hB2
  have hsz2 : W2.heap.size = w1.heap.size + 1 + 1 := by rw [hW2]; simp [hsz1]
  rw [hsz1] at hI
  have hT := s5_tests (t := 64) hsz2 hI
  have hB3 := (Below.refl W2.heap.size W2).alloc (Nat.le_refl _) (.cells #[.slice (some ⟨w1.heap.size + 1, 0, none⟩) 4 4, .int .i64 0, .int .i64 8] 64)
  have HL := Lib.hid ((hL.below hB2 (Nat.le_refl _)).below hB3 (Nat.le_refl _))
  have HT := Lib.hid hT
  have hB13 := hB1.trans ((hB2.mono hB1.size).trans (hB3.mono (Nat.le_trans hB1.size hB2.size)))
  have HB := Lib.hid (hB.trans (hB13.mono hB.size))
  rw [hW2, hW1] at HL HT HB hB13
  have HB13 := Lib.hid hB13
  have HLG := Lib.hid hlb
  have HC0 := Lib.hid c0
  have HC1 := Lib.hid c1
  have HC2 := Lib.hid c2
  have HC3 := Lib.hid c3
  have HSL := HL6.out
  rw [HSL]
  clear hq hB hB1 hB2 hB3 hB13 hL hI hT hW1 hW2 hsz1 hsz2 c0 c1 c2 c3 hlb HSL HL0 W1 W2
  go_wp2_with fail
  refine (H2.out _ _ _ HL.out HT.out).mono ?_
  rintro e w2 ⟨rfl, hB⟩
  have hX := HB13.out.trans (hB.mono HB13.out.size)
  have hal := (Below.refl w2.heap.size w2).alloc (Nat.le_refl _) (.cells #[.int .i64 0, .int .i64 1, .int .i64 0, .int .i64 4, .int .i64 0] 41)
  have h9 := hX.trans (hal.mono hX.size)
  have c0 := (h9.cell (p := ⟨g, _, none⟩) HLG.out).trans HC0.out
  have c1 := (h9.cell (p := ⟨g, _, none⟩) HLG.out).trans HC1.out
  have c2 := (h9.cell (p := ⟨g, _, none⟩) HLG.out).trans HC2.out
  have c3 := (h9.cell (p := ⟨g, _, none⟩) HLG.out).trans HC3.out
  simp only [Nat.zero_mul, Nat.zero_add] at c0 c1 c2 c3
  have hN := hp_new (w := w2) (o := .cells #[.int .i64 0, .int .i64 1, .int .i64 0, .int .i64 4, .int .i64 0] 41 (0, 0)) rfl
  have y0 := hp_cell hN (j := 0) (by rfl)
  have y1 := hp_cell hN (j := 1) (by rfl)
  have y2 := hp_cell hN (j := 2) (by rfl)
  have y3 := hp_cell hN (j := 3) (by rfl)
  have y4 := hp_cell hN (j := 4) (by rfl)
  have HB4 := Lib.hid ((HB.out.trans (hB.mono HB.out.size)).trans (hal.mono (Nat.le_trans HB.out.size hB.size)))
  clear hX hal h9 hN hB
  go_wp2_with fail
  go_ret
  exact ⟨rfl, HB4.out⟩

end Go.Proofs.YtjciojoeifekeaaGreat

/- single, Single of the document (package tinkerref05): contracts. -/
set_option linter.unusedVariables false
set_option linter.unusedSimpArgs false
namespace Go.Proofs.YtjciojoeifekeaaGreat
open Go.RowKit Go.Shelf Tinker

theorem own_off5 {W W' : World} {base n k c g : Nat} {e : TypeId} {a : Option Addr} {xs : List Value} (h : W.ownsRow base e k (.slice a n c) n xs) (ho : Off g W W') (hg : g < base) : W'.ownsRow base e k (.slice a n c) n xs := by
  refine ⟨h.1, ?_⟩
  rcases h.2 with hn | ⟨g', cap, cur, he, hbg, hg', rest⟩
  · exact .inl hn
  · refine .inr ⟨g', cap, cur, he, hbg, ?_, rest⟩
    rw [ho.block g' (hp_lt hg') (by omega)]
    exact hg'
theorem smX_pos {ps : List L} {ts : List T} {xs : List E} {y : E} {s : Int} (h : smX ps ts xs = some (y, s)) : 0 ≤ s := by
  have := ((smX_inv ps ts xs).2 y s h).2.2.1
  rw [this]
  exact (dsN_le _ _).1

set_option maxRecDepth 100000 in
set_option maxHeartbeats 16000000 in
theorem rsingle_any (a h : Option Addr) (ca ch : Nat) (ps : List L) (ts : List T) (n : Int) (w : World) (hp : LinesAt w a ps) (hts : TestsAt w h ts) (hv : vp ps = 0) (ht : vts ts = 0) (h0 : 0 ≤ n) (h2 : n ≤ 2) :
    Calls Tryz.prog 55 #[.slice a ps.length ca, .slice h ts.length ch, .int .i64 n] w fun e w' => e = .returned (.tuple #[.agg (eV (bsE (smX ps ts (edL ps n)))), .bool (smX ps ts (edL ps n)).isSome]) ∧ Below w.heap.size w w' := by
  have h8 := (vp_ok hv).1
  have HC := Lib.hid (fun i w h9 (hi : i < ps.length) => rcand_any a ca ps i n w h9 hv hi h0 h2)
  have HF := Lib.hid (fun l m w => fields_any l m w)
  have HGD := Lib.hid (fun (hne : a ≠ none) (i : Nat) (m : L) (hi : i < ps.length) (hm : m ∈ cndL ps i n) g w h1 h2 h3 => rGood_any a g h ca 1 ch ps [⟨(i : Int), m⟩] ts w h1 (fun e => absurd e hne) h2 h3 (okX_of (vpx_one hv hi (cnd_ln hm))) ht)
  simp only [List.length_cons, List.length_nil, Nat.zero_add] at HGD
  have HP := Lib.hid hp
  have HT := Lib.hid hts
  have HS := Lib.hid (edK_succ ps n)
  have HCL := Lib.hid (fun i => cnd_len9 ps i n)
  have HZ := Lib.hid (show edK ps n 0 = [] from rfl)
  have HRS := Lib.hid (hp_new (w := w) (o := .cells #[.int .i64 0, .int .i64 0, .int .i64 0, .int .i64 0, .int .i64 0] 41 (0, 0)) rfl)
  have HB0 := Lib.hid (((Below.refl w.heap.size w).alloc (Nat.le_refl _) (.cells #[.int .i64 0, .int .i64 0, .int .i64 0, .int .i64 0, .int .i64 0] 41)).alloc (by simp) (.cells #[.int .i64 0, .int .i64 0, .int .i64 0, .int .i64 0, .int .i64 0] 41))
  unfold edL
  generalize edK ps n = ed at *
  clear hv ht h0 h2 hp hts
  go_enter Tryz.func55, Tryz.ntmps55
  go_wp2_with fail
  go_loopw [9, 10] (fun s9 s10 wr => ∃ k : Nat, k ≤ ps.length ∧ s10 = .int .i64 (k : Int) ∧ s9 = .int .i64 (bsS (-1) (smX ps ts (ed k))) ∧ wr.heap[w.heap.size]? = some (.cells #[.int .i64 0, .int .i64 0, .int .i64 0, .int .i64 0, .int .i64 0] 41 (0, 0)) ∧ wr.heap[w.heap.size + 1]? = some (.cells (eV (bsE (smX ps ts (ed k)))) 41 (0, 0)) ∧ Below w.heap.size w wr) (fun _ s10 _ => ps.length - (intOf s10).toNat)
  case atStart => exact ⟨0, Nat.zero_le _, rfl, by rw [HZ.out] <;> rfl, hp_alloc HRS.out, by rw [HZ.out]; exact hp_new (by simp), HB0.out⟩
  case round =>
    clear HB0 HRS
    obtain ⟨k, hk, rfl, rfl, hR, hBx, hB⟩ := hrel
    have HR := Lib.hid hR
    have HBx := Lib.hid hBx
    have HB := Lib.hid hB
    clear hR hBx hB
    by_cases hlt : k < ps.length
    · have hlt1 : decide ((k : Int) < (ps.length : Int)) = true := decide_eq_true (by omega)
      have HS1 := Lib.hid (HS.out k)
      have hcl := HCL.out k
      have HC1 := Lib.hid (fun w h9 => HC.out k w h9 hlt)
      have HG0 := Lib.hid (fun hne m hm => HGD.out hne k m hlt hm)
      obtain ⟨W0, hW0⟩ : ∃ W, W = wr := ⟨_, rfl⟩
      subst hW0
      generalize cndL ps k n = Z at *
      go_wp2_with fail
      refine (HC1.out _ (HP.out.below HB.out (Nat.le_refl _))).mono ?_
      rintro e w1 ⟨a1, k1, rfl, hq, hB⟩
      have HQ := Lib.hid hq
      have HR1 := Lib.hid (hp_below HR.out hB (hp_lt HR.out))
      have HBx1 := Lib.hid (hp_below HBx.out hB (hp_lt HBx.out))
      have HB1 := Lib.hid (HB.out.trans (hB.mono HB.out.size))
      have hgb : w.heap.size + 1 < W0.heap.size := hp_lt HBx.out
      have HBW := Lib.hid (show ∀ W, Off (w.heap.size + 1) w1 W → Below w.heap.size w W from fun W ho => HB1.out.trans (ho.below (Nat.le_succ _) HB1.out.size))
      clear hq hB HR HBx HC HC1
      go_wp2_with fail
      go_loopw [9, 12] (fun s9 s12 wx => ∃ j : Nat, j ≤ Z.length ∧ s12 = .int .i64 (j : Int) ∧ s9 = .int .i64 (bsS (-1) (smX ps ts (ed k ++ (Z.take j).map fun m => (⟨(k : Int), m⟩ : E)))) ∧ wx.heap[w.heap.size + 1]? = some (.cells (eV (bsE (smX ps ts (ed k ++ (Z.take j).map fun m => (⟨(k : Int), m⟩ : E))))) 41 (0, 0)) ∧ Off (w.heap.size + 1) w1 wx) (fun _ s12 _ => Z.length - (intOf s12).toNat)
      case atStart => exact ⟨0, Nat.zero_le _, rfl, by rw [List.take_zero, List.map_nil, List.append_nil], by rw [List.take_zero, List.map_nil, List.append_nil]; exact HBx1.out, Off.refl _ _⟩
      case round =>
        clear HBx1
        obtain ⟨j, hj, rfl, rfl, hBx, hW⟩ := hrel
        have HBx := Lib.hid hBx
        have HW := Lib.hid hW
        clear hBx hW
        by_cases hlj : j < Z.length
        · have hlj1 : decide ((j : Int) < (Z.length : Int)) = true := decide_eq_true (by omega)
          have hown := own_off5 HQ.out HW.out hgb
          obtain ⟨tb, toff, x, rfl, htl, hx, d0, d1, d2, d3⟩ := (lines_of_own hown).1.at_ hlj
          obtain ⟨b, off, l, rfl, hlb, hl, c0, c1, c2, c3⟩ := (HP.out.below (HBW.out _ HW.out) (Nat.le_refl _)).at_ hlt
          have HG1 := Lib.hid (HG0.out (fun e => by cases e) x (mem_of_get hx))
          have HCX := Lib.hid (show ∀ W, Off (w.heap.size + 1) w1 W → W.cell? ⟨tb, toff + j * 4, none⟩ = some (.int .i64 x.op) ∧ W.cell? ⟨tb, toff + j * 4 + 1, none⟩ = some (.int .i64 x.to) ∧ W.cell? ⟨tb, toff + j * 4 + 2, none⟩ = some (.int .i64 x.a) ∧ W.cell? ⟨tb, toff + j * 4 + 3, none⟩ = some (.int .i64 x.b) from fun W hW => by
            obtain ⟨b', off', x', e', _, hx', y⟩ := (lines_of_own (own_off5 HQ.out hW hgb)).1.at_ hlj
            injection e' with e'
            injection e' with e1 e2 e3
            subst e1 e2
            rw [hx] at hx'
            injection hx' with hx'
            subst hx'
            exact y)
          have HN := Lib.hid (show smX ps ts (ed k ++ (Z.take (j + 1)).map fun m => (⟨(k : Int), m⟩ : E)) = smT ps ts (smX ps ts (ed k ++ (Z.take j).map fun m => (⟨(k : Int), m⟩ : E))) ⟨(k : Int), x⟩ by rw [map_take_E hx, ← List.append_assoc, smX_snoc])
          have hse : szE ps ⟨(k : Int), x⟩ = dsN x l := by
            unfold szE
            show dsN x (lnD ps ((k : Int)).toNat) = _
            rw [Int.toNat_natCast, lnD_at hl]
          have HF1 := Lib.hid (fun w => HF.out l x w)
          rw [dsN_comm l x, ← hse] at HF1
          have hbz := dsN_le x l
          rw [← hse] at hbz
          have HPO := Lib.hid (fun y s (h9 : smX ps ts (ed k ++ (Z.take j).map fun m => (⟨(k : Int), m⟩ : E)) = some (y, s)) => smX_pos h9)
          clear hx hl hse hown HQ
          generalize smX ps ts (ed k ++ (Z.take j).map fun m => (⟨(k : Int), m⟩ : E)) = o at *
          obtain ⟨wo, hwo⟩ : ∃ W, W = wr := ⟨_, rfl⟩
          subst hwo
          unfold lv at HF1
          go_upto_region 11 with fail
          go_cut [13] (fun s13 wx => s13 = .int .i64 (szE ps ⟨(k : Int), x⟩) ∧ Below wo.heap.size wo wx)
          case first =>
            go_region_held3 (fun w' => w'.cell? ⟨b, off + k * 4, none⟩ = some (.int .i64 l.op) ∧ w'.cell? ⟨b, off + k * 4 + 1, none⟩ = some (.int .i64 l.to) ∧ w'.cell? ⟨b, off + k * 4 + 2, none⟩ = some (.int .i64 l.a) ∧ w'.cell? ⟨b, off + k * 4 + 3, none⟩ = some (.int .i64 l.b) ∧ w'.cell? ⟨tb, toff + j * 4, none⟩ = some (.int .i64 x.op) ∧ w'.cell? ⟨tb, toff + j * 4 + 1, none⟩ = some (.int .i64 x.to) ∧ w'.cell? ⟨tb, toff + j * 4 + 2, none⟩ = some (.int .i64 x.a) ∧ w'.cell? ⟨tb, toff + j * 4 + 3, none⟩ = some (.int .i64 x.b)) (first | exact ⟨c0, c1, c2, c3, d0, d1, d2, d3⟩ | exact ⟨(hBa.cell (p := ⟨b, _, none⟩) hlb).trans c0, (hBa.cell (p := ⟨b, _, none⟩) hlb).trans c1, (hBa.cell (p := ⟨b, _, none⟩) hlb).trans c2, (hBa.cell (p := ⟨b, _, none⟩) hlb).trans c3, (hBa.cell (p := ⟨tb, _, none⟩) htl).trans d0, (hBa.cell (p := ⟨tb, _, none⟩) htl).trans d1, (hBa.cell (p := ⟨tb, _, none⟩) htl).trans d2, (hBa.cell (p := ⟨tb, _, none⟩) htl).trans d3⟩ | go_keep) ((go_at_call 77; refine (HF1.out _).mono ?_; rintro e wa ⟨rfl, hBa⟩))
            all_goals go_wp2_with fail
            all_goals go_meet
            all_goals exact ⟨rfl, (Below.refl _ _).drew.trans (hBa.mono (Nat.le_refl _))⟩
          case rest =>
          obtain ⟨rfl, hbd⟩ := hcut
          have HBx := Lib.hid (hp_below HBx.out hbd (hp_lt HBx.out))
          have HW := Lib.hid (HW.out.trans (Off.low hbd))
          have htl2 : tb < wc.heap.size := Nat.lt_of_lt_of_le htl hbd.size
          have hlb2 : b < wc.heap.size := Nat.lt_of_lt_of_le hlb hbd.size
          replace d0 := (hbd.cell (p := ⟨tb, _, none⟩) htl).trans d0
          replace d1 := (hbd.cell (p := ⟨tb, _, none⟩) htl).trans d1
          replace d2 := (hbd.cell (p := ⟨tb, _, none⟩) htl).trans d2
          replace d3 := (hbd.cell (p := ⟨tb, _, none⟩) htl).trans d3
          clear hbd HF1 c0 c1 c2 c3
          have hne : w.heap.size + 1 < wc.heap.size := hp_lt HBx.out
          cases o with
          | none =>
            rw [smT_none] at HN
            generalize szE ps ⟨(k : Int), x⟩ = sz at *
            rw [show bsS (-1) none = -1 from rfl]
            cases hgd : gdB ps ts [⟨(k : Int), x⟩] with
            | false =>
              have HO := Lib.hid (show smX ps ts (ed k ++ (Z.take (j + 1)).map fun m => (⟨(k : Int), m⟩ : E)) = none by rw [HN.out, hgd]; rfl)
              rw [hgd] at HG1
              clear hgd HN
              have hal : Below wc.heap.size wc (wc.alloc (.cells #[.int .i64 (k : Int), .int .i64 x.op, .int .i64 x.to, .int .i64 x.a, .int .i64 x.b] 41)) := (Below.refl _ _).alloc (Nat.le_refl _) _
              have HX2 := Lib.hid (edit_at wc 41 ⟨(k : Int), x⟩)
              have HBA := Lib.hid ((HBW.out _ (HW.out.trans (Off.low hal))))
              have HALL := Lib.hid hal
              clear hal
              go_wp2_with fail
              refine (HG1.out _ _ (HP.out.below HBA.out (Nat.le_refl _)) HX2.out (HT.out.below HBA.out (Nat.le_refl _))).mono ?_
              rintro e w4 ⟨rfl, hB⟩
              have HBx := Lib.hid (hp_below (hp_below HBx.out HALL.out (hp_lt HBx.out)) hB (hp_lt (hp_below HBx.out HALL.out (hp_lt HBx.out))))
              have HW := Lib.hid ((HW.out.trans (Off.low HALL.out)).trans (Off.low hB))
              clear hB d0 d1 d2 d3
              go_wp2_with fail
              go_roundw
              case rel => exact ⟨j + 1, by omega, by go_num, by rw [HO.out] <;> rfl, by rw [HO.out]; exact HBx.out, HW.out⟩
              case measure => simp [intOf]; omega
            | true =>
              have HO := Lib.hid (show smX ps ts (ed k ++ (Z.take (j + 1)).map fun m => (⟨(k : Int), m⟩ : E)) = some (⟨(k : Int), x⟩, sz) by rw [HN.out, hgd]; rfl)
              rw [hgd] at HG1
              clear hgd HN
              have hal : Below wc.heap.size wc (wc.alloc (.cells #[.int .i64 (k : Int), .int .i64 x.op, .int .i64 x.to, .int .i64 x.a, .int .i64 x.b] 41)) := (Below.refl _ _).alloc (Nat.le_refl _) _
              have HX2 := Lib.hid (edit_at wc 41 ⟨(k : Int), x⟩)
              have HBA := Lib.hid ((HBW.out _ (HW.out.trans (Off.low hal))))
              have HALL := Lib.hid hal
              clear hal
              go_wp2_with fail
              refine (HG1.out _ _ (HP.out.below HBA.out (Nat.le_refl _)) HX2.out (HT.out.below HBA.out (Nat.le_refl _))).mono ?_
              rintro e w4 ⟨rfl, hB⟩
              have HBx := Lib.hid (hp_below (hp_below HBx.out HALL.out (hp_lt HBx.out)) hB (hp_lt (hp_below HBx.out HALL.out (hp_lt HBx.out))))
              have HW := Lib.hid ((HW.out.trans (Off.low HALL.out)).trans (Off.low hB))
              clear hB d0 d1 d2 d3
              have z0 := hp_cell HBx.out (j := 0) (by rfl)
              have z1 := hp_cell HBx.out (j := 1) (by rfl)
              have z2 := hp_cell HBx.out (j := 2) (by rfl)
              have z3 := hp_cell HBx.out (j := 3) (by rfl)
              have z4 := hp_cell HBx.out (j := 4) (by rfl)
              have f0 := hp_free HBx.out 0
              have f1 := hp_free HBx.out 1
              have f2 := hp_free HBx.out 2
              have f3 := hp_free HBx.out 3
              have f4 := hp_free HBx.out 4
              obtain ⟨d0, d1, d2, d3⟩ := HCX.out _ HW.out
              clear HX2
              go_wp2_with fail
              go_roundw
              case rel => exact ⟨j + 1, by omega, by go_num, by rw [HO.out] <;> rfl, by rw [HO.out]; exact (hp_put (hp_put (hp_put (hp_put (hp_put HBx.out 0 _) 1 _) 2 _) 3 _) 4 _), ((((HW.out.trans (Off.setCell _ _ _ _)).trans (Off.setCell _ _ _ _)).trans (Off.setCell _ _ _ _)).trans (Off.setCell _ _ _ _)).trans (Off.setCell _ _ _ _)⟩
              case measure => simp [intOf]; omega
          | some ys =>
            obtain ⟨y, s⟩ := ys
            have hs0 := HPO.out y s rfl
            have hs1 : decide (s < 0) = false := decide_eq_false (by omega)
            rw [show bsS (-1) (some (y, s)) = s from rfl]
            by_cases hle : s ≤ szE ps ⟨(k : Int), x⟩
            · rw [smT_skip hle] at HN
              have HO := Lib.hid (show smX ps ts (ed k ++ (Z.take (j + 1)).map fun m => (⟨(k : Int), m⟩ : E)) = some (y, s) by rw [HN.out])
              generalize szE ps ⟨(k : Int), x⟩ = sz at *
              have hd : decide (sz < s) = false := decide_eq_false (by omega)
              clear hle HN d0 d1 d2 d3
              go_wp2_with fail
              go_roundw
              case rel => exact ⟨j + 1, by omega, by go_num, by rw [HO.out] <;> rfl, by rw [HO.out]; exact HBx.out, HW.out⟩
              case measure => simp [intOf]; omega
            · rw [smT_less hle] at HN
              generalize szE ps ⟨(k : Int), x⟩ = sz at *
              have hd : decide (sz < s) = true := decide_eq_true (by omega)
              clear hle
              cases hgd : gdB ps ts [⟨(k : Int), x⟩] with
              | false =>
                have HO := Lib.hid (show smX ps ts (ed k ++ (Z.take (j + 1)).map fun m => (⟨(k : Int), m⟩ : E)) = some (y, s) by rw [HN.out, hgd]; rfl)
                rw [hgd] at HG1
                clear hgd HN
                have hal : Below wc.heap.size wc (wc.alloc (.cells #[.int .i64 (k : Int), .int .i64 x.op, .int .i64 x.to, .int .i64 x.a, .int .i64 x.b] 41)) := (Below.refl _ _).alloc (Nat.le_refl _) _
                have HX2 := Lib.hid (edit_at wc 41 ⟨(k : Int), x⟩)
                have HBA := Lib.hid ((HBW.out _ (HW.out.trans (Off.low hal))))
                have HALL := Lib.hid hal
                clear hal
                go_wp2_with fail
                refine (HG1.out _ _ (HP.out.below HBA.out (Nat.le_refl _)) HX2.out (HT.out.below HBA.out (Nat.le_refl _))).mono ?_
                rintro e w4 ⟨rfl, hB⟩
                have HBx := Lib.hid (hp_below (hp_below HBx.out HALL.out (hp_lt HBx.out)) hB (hp_lt (hp_below HBx.out HALL.out (hp_lt HBx.out))))
                have HW := Lib.hid ((HW.out.trans (Off.low HALL.out)).trans (Off.low hB))
                clear hB d0 d1 d2 d3
                go_wp2_with fail
                go_roundw
                case rel => exact ⟨j + 1, by omega, by go_num, by rw [HO.out] <;> rfl, by rw [HO.out]; exact HBx.out, HW.out⟩
                case measure => simp [intOf]; omega
              | true =>
                have HO := Lib.hid (show smX ps ts (ed k ++ (Z.take (j + 1)).map fun m => (⟨(k : Int), m⟩ : E)) = some (⟨(k : Int), x⟩, sz) by rw [HN.out, hgd]; rfl)
                rw [hgd] at HG1
                clear hgd HN
                have hal : Below wc.heap.size wc (wc.alloc (.cells #[.int .i64 (k : Int), .int .i64 x.op, .int .i64 x.to, .int .i64 x.a, .int .i64 x.b] 41)) := (Below.refl _ _).alloc (Nat.le_refl _) _
                have HX2 := Lib.hid (edit_at wc 41 ⟨(k : Int), x⟩)
                have HBA := Lib.hid ((HBW.out _ (HW.out.trans (Off.low hal))))
                have HALL := Lib.hid hal
                clear hal
                go_wp2_with fail
                refine (HG1.out _ _ (HP.out.below HBA.out (Nat.le_refl _)) HX2.out (HT.out.below HBA.out (Nat.le_refl _))).mono ?_
                rintro e w4 ⟨rfl, hB⟩
                have HBx := Lib.hid (hp_below (hp_below HBx.out HALL.out (hp_lt HBx.out)) hB (hp_lt (hp_below HBx.out HALL.out (hp_lt HBx.out))))
                have HW := Lib.hid ((HW.out.trans (Off.low HALL.out)).trans (Off.low hB))
                clear hB d0 d1 d2 d3
                have z0 := hp_cell HBx.out (j := 0) (by rfl)
                have z1 := hp_cell HBx.out (j := 1) (by rfl)
                have z2 := hp_cell HBx.out (j := 2) (by rfl)
                have z3 := hp_cell HBx.out (j := 3) (by rfl)
                have z4 := hp_cell HBx.out (j := 4) (by rfl)
                have f0 := hp_free HBx.out 0
                have f1 := hp_free HBx.out 1
                have f2 := hp_free HBx.out 2
                have f3 := hp_free HBx.out 3
                have f4 := hp_free HBx.out 4
                obtain ⟨d0, d1, d2, d3⟩ := HCX.out _ HW.out
                clear HX2
                go_wp2_with fail
                go_roundw
                case rel => exact ⟨j + 1, by omega, by go_num, by rw [HO.out] <;> rfl, by rw [HO.out]; exact (hp_put (hp_put (hp_put (hp_put (hp_put HBx.out 0 _) 1 _) 2 _) 3 _) 4 _), ((((HW.out.trans (Off.setCell _ _ _ _)).trans (Off.setCell _ _ _ _)).trans (Off.setCell _ _ _ _)).trans (Off.setCell _ _ _ _)).trans (Off.setCell _ _ _ _)⟩
                case measure => simp [intOf]; omega
        · obtain rfl : j = Z.length := by omega
          have hlj1 : decide ((Z.length : Int) < (Z.length : Int)) = false := decide_eq_false (by omega)
          rw [List.take_length, ← HS1.out]
          have hBx := HBx.out
          rw [List.take_length, ← HS1.out] at hBx
          have HBx := Lib.hid hBx
          have HR2 := Lib.hid ((HW.out.block _ (hp_lt HR1.out) (Nat.ne_of_lt (Nat.lt_succ_self _))).trans HR1.out)
          have HB2 := Lib.hid (HBW.out _ HW.out)
          clear hBx
          go_wp2_with fail
          go_roundw
          case rel => exact ⟨k + 1, by omega, by go_num, rfl, HR2.out, HBx.out, HB2.out⟩
          case measure => simp [intOf]; omega
    · obtain rfl : k = ps.length := by omega
      have hlt1 : decide ((ps.length : Int) < (ps.length : Int)) = false := decide_eq_false (by omega)
      have hse : decide (0 ≤ bsS (-1) (smX ps ts (ed ps.length))) = (smX ps ts (ed ps.length)).isSome := by
        cases ho : smX ps ts (ed ps.length) with
        | none => rfl
        | some ys =>
          obtain ⟨y, s⟩ := ys
          have := smX_pos ho
          exact decide_eq_true this
      obtain ⟨bs, hbs⟩ : ∃ bs, bs = bsS (-1) (smX ps ts (ed ps.length)) := ⟨_, rfl⟩
      obtain ⟨bb, hbb⟩ : ∃ bb, bb = bsE (smX ps ts (ed ps.length)) := ⟨_, rfl⟩
      obtain ⟨bo, hbo⟩ : ∃ bo, bo = (smX ps ts (ed ps.length)).isSome := ⟨_, rfl⟩
      rw [← hbb] at HBx
      rw [← hbs, ← hbo] at hse
      rw [← hbs]
      have HBB := Lib.hid hbb
      have HBO := Lib.hid hbo
      unfold eV at HBx
      clear hbb hbo hbs
      have y0 := hp_cell HBx.out (j := 0) (by rfl)
      have y1 := hp_cell HBx.out (j := 1) (by rfl)
      have y2 := hp_cell HBx.out (j := 2) (by rfl)
      have y3 := hp_cell HBx.out (j := 3) (by rfl)
      have y4 := hp_cell HBx.out (j := 4) (by rfl)
      have z0 := hp_cell HR.out (j := 0) (by rfl)
      have z1 := hp_cell HR.out (j := 1) (by rfl)
      have z2 := hp_cell HR.out (j := 2) (by rfl)
      have z3 := hp_cell HR.out (j := 3) (by rfl)
      have z4 := hp_cell HR.out (j := 4) (by rfl)
      have f0 := hp_free HR.out 0
      have f1 := hp_free HR.out 1
      have f2 := hp_free HR.out 2
      have f3 := hp_free HR.out 3
      have f4 := hp_free HR.out 4
      go_wp2_with fail
      refine bodyPost_ret (v := .tuple #[.agg #[.int .i64 bb.at_, .int .i64 bb.ln.op, .int .i64 bb.ln.to, .int .i64 bb.ln.a, .int .i64 bb.ln.b], .bool bo]) ?_ rfl ⟨by rw [← HBB.out, ← HBO.out]; rfl, (((((HB.out.setCell (p := ⟨w.heap.size, _, none⟩) (Nat.le_refl _) _).setCell (p := ⟨w.heap.size, _, none⟩) (Nat.le_refl _) _).setCell (p := ⟨w.heap.size, _, none⟩) (Nat.le_refl _) _).setCell (p := ⟨w.heap.size, _, none⟩) (Nat.le_refl _) _).setCell (p := ⟨w.heap.size, _, none⟩) (Nat.le_refl _) _)⟩
      exact results_cell_tmp5 (p := 6) (ty := 41) rfl _ _ w.heap.size 41 _ (0, 0) (by rfl) (hp_put (hp_put (hp_put (hp_put (hp_put HR.out 0 _) 1 _) 2 _) 3 _) 4 _) Tryz.underlying41 size_ed5 rfl

set_option maxRecDepth 100000 in
set_option maxHeartbeats 4000000 in
theorem rSingle_any (a h : Option Addr) (ca ch : Nat) (ps : List L) (ts : List T) (n : Int) (w : World) (hp : LinesAt w a ps) (hts : TestsAt w h ts) :
    Calls Tryz.prog 26 #[.slice a ps.length ca, .slice h ts.length ch, .int .i64 n] w fun e w' => e = .returned (.tuple #[.agg (eV (bsE (sgO ps ts n))), .bool (sgO ps ts n).isSome, .int .i64 (skC ps ts n)]) ∧ Below w.heap.size w w' := by
  have H1 := Lib.hid (fun w h1 h2 => rsought_any a h ca ch ps ts n w h1 h2)
  have HP := Lib.hid hp
  have HT := Lib.hid hts
  have HR0 := Lib.hid (hp_new (w := w) (o := .cells #[.int .i64 0, .int .i64 0, .int .i64 0, .int .i64 0, .int .i64 0] 41 (0, 0)) rfl)
  have HB0 := Lib.hid ((Below.refl w.heap.size w).alloc (Nat.le_refl _) (.cells #[.int .i64 0, .int .i64 0, .int .i64 0, .int .i64 0, .int .i64 0] 41))
  by_cases hz : skC ps ts n = 0
  · obtain ⟨v1, v2, v3, v4⟩ := skC_ok hz
    have H3 := Lib.hid (fun w h1 h2 => rsingle_any a h ca ch ps ts n w h1 h2 v1 v2 v3.1 v3.2)
    rw [show sgO ps ts n = smX ps ts (edL ps n) by unfold sgO; rw [if_pos hz], hz]
    rw [hz] at H1
    obtain ⟨bb, hbb⟩ : ∃ bb, bb = bsE (smX ps ts (edL ps n)) := ⟨_, rfl⟩
    obtain ⟨bo, hbo⟩ : ∃ bo, bo = (smX ps ts (edL ps n)).isSome := ⟨_, rfl⟩
    rw [← hbb, ← hbo]
    rw [← hbb, ← hbo] at H3
    unfold eV at H3 ⊢
    clear hbb hbo hz v1 v2 v3 v4 hp hts
    go_enter Tryz.func26, Tryz.ntmps26
    go_wp2_with fail
    refine (H1.out _ (HP.out.below HB0.out (Nat.le_refl _)) (HT.out.below HB0.out (Nat.le_refl _))).mono ?_
    rintro e w2 ⟨rfl, hB⟩
    have HR2 := Lib.hid (hp_below HR0.out hB (hp_lt HR0.out))
    have HB2 := Lib.hid (HB0.out.trans (hB.mono HB0.out.size))
    clear hB
    go_wp2_with fail
    refine (H3.out _ (HP.out.below HB2.out (Nat.le_refl _)) (HT.out.below HB2.out (Nat.le_refl _))).mono ?_
    rintro e w3 ⟨rfl, hB⟩
    have hR3 := hp_below HR2.out hB (hp_lt HR2.out)
    have hal := (Below.refl w3.heap.size w3).alloc (Nat.le_refl _) (.cells #[.int .i64 bb.at_, .int .i64 bb.ln.op, .int .i64 bb.ln.to, .int .i64 bb.ln.a, .int .i64 bb.ln.b] 41)
    have HR3 := Lib.hid (hp_below hR3 hal (hp_lt hR3))
    have hN := hp_new (w := w3) (o := .cells #[.int .i64 bb.at_, .int .i64 bb.ln.op, .int .i64 bb.ln.to, .int .i64 bb.ln.a, .int .i64 bb.ln.b] 41 (0, 0)) rfl
    have HB3 := Lib.hid ((HB2.out.trans (hB.mono HB2.out.size)).trans (hal.mono (Nat.le_trans HB2.out.size hB.size)))
    have y0 := hp_cell hN (j := 0) (by rfl)
    have y1 := hp_cell hN (j := 1) (by rfl)
    have y2 := hp_cell hN (j := 2) (by rfl)
    have y3 := hp_cell hN (j := 3) (by rfl)
    have y4 := hp_cell hN (j := 4) (by rfl)
    have z0 := hp_cell HR3.out (j := 0) (by rfl)
    have z1 := hp_cell HR3.out (j := 1) (by rfl)
    have z2 := hp_cell HR3.out (j := 2) (by rfl)
    have z3 := hp_cell HR3.out (j := 3) (by rfl)
    have z4 := hp_cell HR3.out (j := 4) (by rfl)
    have f0 := hp_free HR3.out 0
    have f1 := hp_free HR3.out 1
    have f2 := hp_free HR3.out 2
    have f3 := hp_free HR3.out 3
    have f4 := hp_free HR3.out 4
    clear hB hR3 hal hN
    go_wp2_with fail
    refine bodyPost_ret (v := .tuple #[.agg #[.int .i64 bb.at_, .int .i64 bb.ln.op, .int .i64 bb.ln.to, .int .i64 bb.ln.a, .int .i64 bb.ln.b], .bool bo, .int .i64 0]) ?_ rfl ⟨rfl, (((((HB3.out.setCell (p := ⟨w.heap.size, _, none⟩) (Nat.le_refl _) _).setCell (p := ⟨w.heap.size, _, none⟩) (Nat.le_refl _) _).setCell (p := ⟨w.heap.size, _, none⟩) (Nat.le_refl _) _).setCell (p := ⟨w.heap.size, _, none⟩) (Nat.le_refl _) _).setCell (p := ⟨w.heap.size, _, none⟩) (Nat.le_refl _) _)⟩
    exact results_cell_tmp55 (p := 6) (ty := 41) rfl _ _ w.heap.size 41 _ (0, 0) (by rfl) (hp_put (hp_put (hp_put (hp_put (hp_put HR3.out 0 _) 1 _) 2 _) 3 _) 4 _) Tryz.underlying41 size_ed5 rfl rfl
  · rw [show sgO ps ts n = none by unfold sgO; rw [if_neg hz]]
    generalize skC ps ts n = q at *
    have hq1 : (q != 0) = true := by simpa using hz
    clear hz hp hts
    go_enter Tryz.func26, Tryz.ntmps26
    go_wp2_with fail
    refine (H1.out _ (HP.out.below HB0.out (Nat.le_refl _)) (HT.out.below HB0.out (Nat.le_refl _))).mono ?_
    rintro e w1 ⟨rfl, hB⟩
    have HR1 := Lib.hid (hp_below HR0.out hB (hp_lt HR0.out))
    have HB1 := Lib.hid (HB0.out.trans (hB.mono HB0.out.size))
    clear hB
    have z0 := hp_cell HR1.out (j := 0) (by rfl)
    have z1 := hp_cell HR1.out (j := 1) (by rfl)
    have z2 := hp_cell HR1.out (j := 2) (by rfl)
    have z3 := hp_cell HR1.out (j := 3) (by rfl)
    have z4 := hp_cell HR1.out (j := 4) (by rfl)
    have f0 := hp_free HR1.out 0
    have f1 := hp_free HR1.out 1
    have f2 := hp_free HR1.out 2
    have f3 := hp_free HR1.out 3
    have f4 := hp_free HR1.out 4
    go_wp2_with fail
    refine bodyPost_ret (v := .tuple #[.agg #[.int .i64 0, .int .i64 0, .int .i64 0, .int .i64 0, .int .i64 0], .bool false, .int .i64 q]) ?_ rfl ⟨rfl, (((((HB1.out.setCell (p := ⟨w.heap.size, _, none⟩) (Nat.le_refl _) _).setCell (p := ⟨w.heap.size, _, none⟩) (Nat.le_refl _) _).setCell (p := ⟨w.heap.size, _, none⟩) (Nat.le_refl _) _).setCell (p := ⟨w.heap.size, _, none⟩) (Nat.le_refl _) _).setCell (p := ⟨w.heap.size, _, none⟩) (Nat.le_refl _) _)⟩
    exact results_cell_tmp55 (p := 6) (ty := 41) rfl _ _ w.heap.size 41 _ (0, 0) (by rfl) (hp_put (hp_put (hp_put (hp_put (hp_put HR1.out 0 _) 1 _) 2 _) 3 _) 4 _) Tryz.underlying41 size_ed5 rfl rfl

end Go.Proofs.YtjciojoeifekeaaGreat

/- SeekSingles: the walk. -/
set_option linter.unusedVariables false
set_option linter.unusedSimpArgs false
namespace Go.Proofs.YtjciojoeifekeaaGreat
open Go.RowKit Go.Shelf Tinker

theorem skC_two {ps : List L} {ts : List T} {n : Int} (h : skC ps ts n = 0) : skC ps ts 2 = 0 := by
  obtain ⟨h1, h2, h3, h4⟩ := skC_ok h
  unfold skC
  rw [h1, h2, h4, show kdC 2 = 0 from rfl]
  rfl
theorem szR_one {ps : List L} {x : E} (h : vpx ps [x] 0 = 0) : szR ps [x] = szE ps x := by
  unfold szR
  rw [if_pos h, szL_cons]
  show szE ps x + szL ps [] = szE ps x
  simp [szL]
theorem sg_facts {ps : List L} {ts : List T} {n : Int} {y : E} {s : Int} (h : sgO ps ts n = some (y, s)) : skC ps ts n = 0 ∧ skC ps ts 2 = 0 ∧ vpx ps [y] (vts ts) = 0 ∧ gdR ps [y] ts = true ∧ vpx ps [y] 0 = 0 ∧ ∃ y2 s2, sgO ps ts 2 = some (y2, s2) ∧ vpx ps [y2] 0 = 0 ∧ szR ps [y2] ≤ szR ps [y] := by
  unfold sgO at h
  split at h
  · rename_i h0
    obtain ⟨h1, h2, h3, h4⟩ := skC_ok h0
    obtain ⟨a1, a2, a3, a4⟩ := (smX_inv ps ts _).2 y s h
    have v := edL_ok h1 a1
    have g : gdR ps [y] ts = true := by unfold gdR; rw [h2, if_pos v]; exact a2
    refine ⟨h0, skC_two h0, by rw [h2]; exact v, g, v, ?_⟩
    unfold sgO
    rw [if_pos (skC_two h0)]
    cases hq : smX ps ts (edL ps 2) with
    | none =>
      have := (smX_inv ps ts _).1 hq y (edL_sub a1)
      rw [a2] at this
      cases this
    | some o =>
      obtain ⟨y2, s2⟩ := o
      obtain ⟨b1, b2, b3, b4⟩ := (smX_inv ps ts _).2 y2 s2 hq
      have v2 := edL_ok h1 b1
      refine ⟨y2, s2, rfl, v2, ?_⟩
      rw [szR_one v2, szR_one v]
      have := b4 y (edL_sub a1) a2
      omega
  · cases h

set_option maxRecDepth 100000 in
set_option maxHeartbeats 8000000 in
theorem seekSingles_walk (a : Option Addr) (ca : Nat) (ps : List L) (h : Option Addr) (ch : Nat) (ts : List T) (n : Int) (w : World) (hp : LinesAt w a ps) (hts : TestsAt w h ts) (ht : ts.length ≤ maxLen) :
    Calls Tryz.prog 6 #[.slice a ps.length ca, .slice h ts.length ch, .int .i64 n] w fun e w' => e = .returned (.bool true) ∧ Below w.heap.size w w' := by
  have HK := Lib.hid (fun w => sane5_true w)
  have HL := Lib.hid (fun w => long5_any a none ps.length 0 ca 0 w)
  have HM := Lib.hid (fun w h1 => many4_any h ch ts w h1 ht)
  have HP := Lib.hid hp
  have HT := Lib.hid hts
  clear hp hts
  by_cases g1 : 100 < ps.length
  · rw [show (decide (100 < ps.length) || decide (100 < 0)) = true by simpa using g1] at HL
    clear g1 HP HT HM
    go_enter Tryz.func6, Tryz.ntmps6
    go_wp2_with fail
    refine (HL.out _).mono ?_
    rintro e we0 ⟨rfl, rfl⟩
    go_wp2_with fail
    refine (HK.out _).mono ?_
    rintro e w9 ⟨rfl, hB⟩
    have HB := Lib.hid (hB)
    clear hB
    go_wp2_with fail
    go_ret
    exact ⟨rfl, HB.out⟩
  rw [show (decide (100 < ps.length) || decide (100 < 0)) = false by simp; omega] at HL
  cases g2 : manyC ts
  case true =>
    rw [g2] at HM
    clear g1 g2
    go_enter Tryz.func6, Tryz.ntmps6
    go_wp2_with fail
    refine (HL.out _).mono ?_
    rintro e we0 ⟨rfl, rfl⟩
    go_wp2_with fail
    refine (HM.out _ HT.out).mono ?_
    rintro e w1 ⟨rfl, hB⟩
    have HP := Lib.hid (HP.out.below hB (Nat.le_refl _))
    have HT := Lib.hid (HT.out.below hB (Nat.le_refl _))
    have HB := Lib.hid hB
    clear hB
    go_wp2_with fail
    refine (HK.out _).mono ?_
    rintro e w9 ⟨rfl, hB⟩
    have HB := Lib.hid (HB.out.trans (hB.mono HB.out.size))
    clear hB
    go_wp2_with fail
    go_ret
    exact ⟨rfl, HB.out⟩
  case false =>
    obtain ⟨t50, tml⟩ := manyC_no g2
    rw [g2] at HM
    have hml : ∀ t ∈ ts, t.inn.length ≤ 1000 := fun t h => Nat.le_trans (tml t h) (by decide)
    have C1 := Lib.hid (fun w h1 h2 => sSingle_any a h ca ch ps ts n w h1 h2 (by omega) (by omega) hml)
    have C2 := Lib.hid (fun w h1 h2 => rSingle_any a h ca ch ps ts n w h1 h2)
    have C3 := Lib.hid (fun w h1 h2 => sSingle_any a h ca ch ps ts 2 w h1 h2 (by omega) (by omega) hml)
    have CG := Lib.hid (fun x g w h1 h2 h3 => pIsGood_any a g h ca 1 ch ps [x] ts w h1 h2 h3 (by simp) (by omega) hml (by omega))
    have CS := Lib.hid (fun x g w h1 h2 => pSize_any a g ca 1 ps [x] w h1 h2 (by simp) (by omega))
    simp only [List.length_cons, List.length_nil, Nat.zero_add] at CG CS
    cases hq : sgO ps ts n with
    | none =>
      rw [hq] at C1 C2
      rw [show bsE none = eZ from rfl, show (none : Option (E × Int)).isSome = false from rfl] at C1 C2
      obtain ⟨bb, hbb⟩ : ∃ bb, bb = eZ := ⟨_, rfl⟩
      rw [← hbb] at C1 C2
      generalize skC ps ts n = q at *
      have hq1 : (q != q) = false := by simp
      unfold eV at C1 C2
      clear hq hbb g1 g2 tml hml t50 C3 CG CS
      go_enter Tryz.func6, Tryz.ntmps6
      go_wp2_with fail
      refine (HL.out _).mono ?_
      rintro e we0 ⟨rfl, rfl⟩
      go_wp2_with fail
      refine (HM.out _ HT.out).mono ?_
      rintro e w1 ⟨rfl, hB⟩
      have HP := Lib.hid (HP.out.below hB (Nat.le_refl _))
      have HT := Lib.hid (HT.out.below hB (Nat.le_refl _))
      have HB := Lib.hid hB
      clear hB
      go_wp2_with fail
      refine (C1.out _ HP.out HT.out).mono ?_
      rintro e w2 ⟨rfl, hB⟩
      have HP := Lib.hid (HP.out.below hB (Nat.le_refl _))
      have HT := Lib.hid (HT.out.below hB (Nat.le_refl _))
      have HB := Lib.hid (HB.out.trans (hB.mono HB.out.size))
      have hal := (Below.refl w2.heap.size w2).alloc (Nat.le_refl _) (.cells #[.int .i64 bb.at_, .int .i64 bb.ln.op, .int .i64 bb.ln.to, .int .i64 bb.ln.a, .int .i64 bb.ln.b] 41)
      have H7 := Lib.hid (hp_new (w := w2) (o := .cells #[.int .i64 bb.at_, .int .i64 bb.ln.op, .int .i64 bb.ln.to, .int .i64 bb.ln.a, .int .i64 bb.ln.b] 41 (0, 0)) rfl)
      have HP := Lib.hid (HP.out.below hal (Nat.le_refl _))
      have HT := Lib.hid (HT.out.below hal (Nat.le_refl _))
      have HB := Lib.hid (HB.out.trans (hal.mono HB.out.size))
      clear hal
      clear hB
      go_wp2_with fail
      refine (C2.out _ HP.out HT.out).mono ?_
      rintro e w3 ⟨rfl, hB⟩
      have H7 := Lib.hid (hp_below H7.out hB (hp_lt H7.out))
      have HP := Lib.hid (HP.out.below hB (Nat.le_refl _))
      have HT := Lib.hid (HT.out.below hB (Nat.le_refl _))
      have HB := Lib.hid (HB.out.trans (hB.mono HB.out.size))
      have hal := (Below.refl w3.heap.size w3).alloc (Nat.le_refl _) (.cells #[.int .i64 bb.at_, .int .i64 bb.ln.op, .int .i64 bb.ln.to, .int .i64 bb.ln.a, .int .i64 bb.ln.b] 41)
      have H7 := Lib.hid (hp_below H7.out hal (hp_lt H7.out))
      have H10 := Lib.hid (hp_new (w := w3) (o := .cells #[.int .i64 bb.at_, .int .i64 bb.ln.op, .int .i64 bb.ln.to, .int .i64 bb.ln.a, .int .i64 bb.ln.b] 41 (0, 0)) rfl)
      have HP := Lib.hid (HP.out.below hal (Nat.le_refl _))
      have HT := Lib.hid (HT.out.below hal (Nat.le_refl _))
      have HB := Lib.hid (HB.out.trans (hal.mono HB.out.size))
      clear hal
      clear hB
      have y0 := hp_cell H7.out (j := 0) (by rfl)
      have y1 := hp_cell H7.out (j := 1) (by rfl)
      have y2 := hp_cell H7.out (j := 2) (by rfl)
      have y3 := hp_cell H7.out (j := 3) (by rfl)
      have y4 := hp_cell H7.out (j := 4) (by rfl)
      have z0 := hp_cell H10.out (j := 0) (by rfl)
      have z1 := hp_cell H10.out (j := 1) (by rfl)
      have z2 := hp_cell H10.out (j := 2) (by rfl)
      have z3 := hp_cell H10.out (j := 3) (by rfl)
      have z4 := hp_cell H10.out (j := 4) (by rfl)
      go_wp2_with fail
      refine (HK.out _).mono ?_
      rintro e w9 ⟨rfl, hB⟩
      have HB := Lib.hid (HB.out.trans (hB.mono HB.out.size))
      clear hB
      go_wp2_with fail
      go_ret
      exact ⟨rfl, HB.out⟩
    | some o =>
      obtain ⟨ea, s⟩ := o
      obtain ⟨f1, f2, f3, f4, f5, eb, s2, f6, f7, f8⟩ := sg_facts hq
      have CG1 := Lib.hid (fun g w h1 h2 h3 => CG.out ea g w h1 h2 h3)
      have CS1 := Lib.hid (fun g w h1 h2 => CS.out ea g w h1 h2)
      have CS2 := Lib.hid (fun g w h1 h2 => CS.out eb g w h1 h2)
      rw [hq, f1] at C1 C2
      rw [f6, f2] at C3
      rw [show bsE (some (ea, s)) = ea from rfl, show (some (ea, s)).isSome = true from rfl] at C1 C2
      rw [show bsE (some (eb, s2)) = eb from rfl, show (some (eb, s2)).isSome = true from rfl] at C3
      rw [f4, f3] at CG1
      rw [f5] at CS1
      rw [f7] at CS2
      generalize szR ps [ea] = z1 at *
      generalize szR ps [eb] = z2 at *
      have hle : decide (z2 ≤ z1) = true := decide_eq_true f8
      unfold eV at C1 C2 C3
      clear hq f1 f2 f3 f4 f5 f6 f7 f8 g1 g2 tml hml t50 CG CS
      go_enter Tryz.func6, Tryz.ntmps6
      go_wp2_with fail
      refine (HL.out _).mono ?_
      rintro e we0 ⟨rfl, rfl⟩
      go_wp2_with fail
      refine (HM.out _ HT.out).mono ?_
      rintro e w1 ⟨rfl, hB⟩
      have HP := Lib.hid (HP.out.below hB (Nat.le_refl _))
      have HT := Lib.hid (HT.out.below hB (Nat.le_refl _))
      have HB := Lib.hid hB
      clear hB
      go_wp2_with fail
      refine (C1.out _ HP.out HT.out).mono ?_
      rintro e w2 ⟨rfl, hB⟩
      have HP := Lib.hid (HP.out.below hB (Nat.le_refl _))
      have HT := Lib.hid (HT.out.below hB (Nat.le_refl _))
      have HB := Lib.hid (HB.out.trans (hB.mono HB.out.size))
      have hal := (Below.refl w2.heap.size w2).alloc (Nat.le_refl _) (.cells #[.int .i64 ea.at_, .int .i64 ea.ln.op, .int .i64 ea.ln.to, .int .i64 ea.ln.a, .int .i64 ea.ln.b] 41)
      have H7 := Lib.hid (hp_new (w := w2) (o := .cells #[.int .i64 ea.at_, .int .i64 ea.ln.op, .int .i64 ea.ln.to, .int .i64 ea.ln.a, .int .i64 ea.ln.b] 41 (0, 0)) rfl)
      have HP := Lib.hid (HP.out.below hal (Nat.le_refl _))
      have HT := Lib.hid (HT.out.below hal (Nat.le_refl _))
      have HB := Lib.hid (HB.out.trans (hal.mono HB.out.size))
      clear hal
      clear hB
      go_wp2_with fail
      refine (C2.out _ HP.out HT.out).mono ?_
      rintro e w3 ⟨rfl, hB⟩
      have H7 := Lib.hid (hp_below H7.out hB (hp_lt H7.out))
      have HP := Lib.hid (HP.out.below hB (Nat.le_refl _))
      have HT := Lib.hid (HT.out.below hB (Nat.le_refl _))
      have HB := Lib.hid (HB.out.trans (hB.mono HB.out.size))
      have hal := (Below.refl w3.heap.size w3).alloc (Nat.le_refl _) (.cells #[.int .i64 ea.at_, .int .i64 ea.ln.op, .int .i64 ea.ln.to, .int .i64 ea.ln.a, .int .i64 ea.ln.b] 41)
      have H7 := Lib.hid (hp_below H7.out hal (hp_lt H7.out))
      have H10 := Lib.hid (hp_new (w := w3) (o := .cells #[.int .i64 ea.at_, .int .i64 ea.ln.op, .int .i64 ea.ln.to, .int .i64 ea.ln.a, .int .i64 ea.ln.b] 41 (0, 0)) rfl)
      have HP := Lib.hid (HP.out.below hal (Nat.le_refl _))
      have HT := Lib.hid (HT.out.below hal (Nat.le_refl _))
      have HB := Lib.hid (HB.out.trans (hal.mono HB.out.size))
      clear hal
      clear hB
      have y0 := hp_cell H7.out (j := 0) (by rfl)
      have y1 := hp_cell H7.out (j := 1) (by rfl)
      have y2 := hp_cell H7.out (j := 2) (by rfl)
      have y3 := hp_cell H7.out (j := 3) (by rfl)
      have y4 := hp_cell H7.out (j := 4) (by rfl)
      have z0 := hp_cell H10.out (j := 0) (by rfl)
      have z1 := hp_cell H10.out (j := 1) (by rfl)
      have z2 := hp_cell H10.out (j := 2) (by rfl)
      have z3 := hp_cell H10.out (j := 3) (by rfl)
      have z4 := hp_cell H10.out (j := 4) (by rfl)
      obtain ⟨W3, hW3⟩ : ∃ W, W = w3.alloc (.cells #[.int .i64 ea.at_, .int .i64 ea.ln.op, .int .i64 ea.ln.to, .int .i64 ea.ln.a, .int .i64 ea.ln.b] 41) := ⟨_, rfl⟩
      rw [← hW3] at HB HP HT
      rw [← hW3] at H7
      have hs3 : W3.heap.size = w3.heap.size + 1 := by rw [hW3]; simp
      have hal := (Below.refl W3.heap.size W3).alloc (Nat.le_refl _) (.cells #[.int .i64 ea.at_, .int .i64 ea.ln.op, .int .i64 ea.ln.to, .int .i64 ea.ln.a, .int .i64 ea.ln.b] 41)
      have hE := edit_at W3 41 ea
      rw [hs3] at hE
      have HX1 := Lib.hid hE
      have HP := Lib.hid (HP.out.below hal (Nat.le_refl _))
      have HT := Lib.hid (HT.out.below hal (Nat.le_refl _))
      have HB := Lib.hid (HB.out.trans (hal.mono HB.out.size))
      have H7 := Lib.hid (hp_below H7.out hal (hp_lt H7.out))
      rw [hW3] at HX1 HP HT HB
      rw [hW3] at H7
      clear hal hE hs3 hW3
      go_wp2_with fail
      refine (CG1.out _ _ HP.out HX1.out HT.out).mono ?_
      rintro e w4 ⟨rfl, hB⟩
      have H7 := Lib.hid (hp_below H7.out hB (hp_lt H7.out))
      have HP := Lib.hid (HP.out.below hB (Nat.le_refl _))
      have HT := Lib.hid (HT.out.below hB (Nat.le_refl _))
      have HB := Lib.hid (HB.out.trans (hB.mono HB.out.size))
      clear hB HX1
      go_wp2_with fail
      refine (C3.out _ HP.out HT.out).mono ?_
      rintro e w5 ⟨rfl, hB⟩
      have H7 := Lib.hid (hp_below H7.out hB (hp_lt H7.out))
      have HP := Lib.hid (HP.out.below hB (Nat.le_refl _))
      have HT := Lib.hid (HT.out.below hB (Nat.le_refl _))
      have HB := Lib.hid (HB.out.trans (hB.mono HB.out.size))
      have hal := (Below.refl w5.heap.size w5).alloc (Nat.le_refl _) (.cells #[.int .i64 eb.at_, .int .i64 eb.ln.op, .int .i64 eb.ln.to, .int .i64 eb.ln.a, .int .i64 eb.ln.b] 41)
      have H7 := Lib.hid (hp_below H7.out hal (hp_lt H7.out))
      have H15 := Lib.hid (hp_new (w := w5) (o := .cells #[.int .i64 eb.at_, .int .i64 eb.ln.op, .int .i64 eb.ln.to, .int .i64 eb.ln.a, .int .i64 eb.ln.b] 41 (0, 0)) rfl)
      have HP := Lib.hid (HP.out.below hal (Nat.le_refl _))
      have HT := Lib.hid (HT.out.below hal (Nat.le_refl _))
      have HB := Lib.hid (HB.out.trans (hal.mono HB.out.size))
      clear hal
      clear hB
      have m0 := hp_cell H7.out (j := 0) (by rfl)
      have m1 := hp_cell H7.out (j := 1) (by rfl)
      have m2 := hp_cell H7.out (j := 2) (by rfl)
      have m3 := hp_cell H7.out (j := 3) (by rfl)
      have m4 := hp_cell H7.out (j := 4) (by rfl)
      obtain ⟨W3, hW3⟩ : ∃ W, W = w5.alloc (.cells #[.int .i64 eb.at_, .int .i64 eb.ln.op, .int .i64 eb.ln.to, .int .i64 eb.ln.a, .int .i64 eb.ln.b] 41) := ⟨_, rfl⟩
      rw [← hW3] at HB HP HT
      rw [← hW3] at H7
      rw [← hW3] at H15
      have hs3 : W3.heap.size = w5.heap.size + 1 := by rw [hW3]; simp
      have hal := (Below.refl W3.heap.size W3).alloc (Nat.le_refl _) (.cells #[.int .i64 ea.at_, .int .i64 ea.ln.op, .int .i64 ea.ln.to, .int .i64 ea.ln.a, .int .i64 ea.ln.b] 41)
      have hE := edit_at W3 41 ea
      rw [hs3] at hE
      have HX1 := Lib.hid hE
      have HP := Lib.hid (HP.out.below hal (Nat.le_refl _))
      have HT := Lib.hid (HT.out.below hal (Nat.le_refl _))
      have HB := Lib.hid (HB.out.trans (hal.mono HB.out.size))
      have H7 := Lib.hid (hp_below H7.out hal (hp_lt H7.out))
      have H15 := Lib.hid (hp_below H15.out hal (hp_lt H15.out))
      rw [hW3] at HX1 HP HT HB
      rw [hW3] at H7
      rw [hW3] at H15
      clear hal hE hs3 hW3
      go_wp2_with fail
      refine (CS1.out _ _ HP.out HX1.out).mono ?_
      rintro e w6 ⟨rfl, hB⟩
      have H7 := Lib.hid (hp_below H7.out hB (hp_lt H7.out))
      have H15 := Lib.hid (hp_below H15.out hB (hp_lt H15.out))
      have HP := Lib.hid (HP.out.below hB (Nat.le_refl _))
      have HT := Lib.hid (HT.out.below hB (Nat.le_refl _))
      have HB := Lib.hid (HB.out.trans (hB.mono HB.out.size))
      clear hB HX1
      clear m0 m1 m2 m3 m4
      have m0 := hp_cell H15.out (j := 0) (by rfl)
      have m1 := hp_cell H15.out (j := 1) (by rfl)
      have m2 := hp_cell H15.out (j := 2) (by rfl)
      have m3 := hp_cell H15.out (j := 3) (by rfl)
      have m4 := hp_cell H15.out (j := 4) (by rfl)
      have hal := (Below.refl w6.heap.size w6).alloc (Nat.le_refl _) (.cells #[.int .i64 eb.at_, .int .i64 eb.ln.op, .int .i64 eb.ln.to, .int .i64 eb.ln.a, .int .i64 eb.ln.b] 41)
      have hE := edit_at w6 41 eb
      have HX1 := Lib.hid hE
      have HP := Lib.hid (HP.out.below hal (Nat.le_refl _))
      have HT := Lib.hid (HT.out.below hal (Nat.le_refl _))
      have HB := Lib.hid (HB.out.trans (hal.mono HB.out.size))
      clear hal hE
      go_wp2_with fail
      refine (CS2.out _ _ HP.out HX1.out).mono ?_
      rintro e w7 ⟨rfl, hB⟩
      have HP := Lib.hid (HP.out.below hB (Nat.le_refl _))
      have HT := Lib.hid (HT.out.below hB (Nat.le_refl _))
      have HB := Lib.hid (HB.out.trans (hB.mono HB.out.size))
      clear hB HX1
      go_wp2_with fail
      refine (HK.out _).mono ?_
      rintro e w9 ⟨rfl, hB⟩
      have HB := Lib.hid (HB.out.trans (hB.mono HB.out.size))
      clear hB
      go_wp2_with fail
      go_ret
      exact ⟨rfl, HB.out⟩

end Go.Proofs.YtjciojoeifekeaaGreat
