/- CheckMakes: the walk. -/
import Derived.Test.YtndmjenfgggfbaaChkF
import Derived.Test.YtndmjenfgggfbaaMaker
set_option linter.unusedVariables false
set_option linter.unusedSimpArgs false
namespace Go.Proofs.Ytndmjenfgggfbaa
open Go.RowKit Tinker

/-- On the way through the law: the box of the test, its own row, the copied state. -/
structure MkI (A B1 : Nat) (a7 : Option Addr) (s : List Int) (a1 : Option Addr) (n k1 : Nat) (out want : Int) (zs : List Int) (w W : World) : Prop where
  box : BoxT A a1 n k1 out want w W
  own : IntsAt W a7 s
  sep : ∀ b o, a7 = some ⟨b, o, none⟩ → b < B1
  row : W.ownsRow B1 3 1 (.slice a1 n k1) n (zs.map (Value.int .i64))
  ne : ∀ g, a1 = some ⟨g, 0, none⟩ → g ≠ A
  hb : w.heap.size ≤ B1
theorem MkI.low {A B1 : Nat} {a7 : Option Addr} {s : List Int} {a1 : Option Addr} {n k1 : Nat} {out want : Int} {zs : List Int} {w W W' : World} (h : MkI A B1 a7 s a1 n k1 out want zs w W) (hB : Below W.heap.size W W') : MkI A B1 a7 s a1 n k1 out want zs w W' :=
  ⟨h.box.low hB, h.own.below hB (Nat.le_refl _), h.sep, own_below h.row hB (Nat.le_refl _), h.ne, h.hb⟩
theorem MkI.put {A B1 : Nat} {a7 : Option Addr} {s : List Int} {g n k1 : Nat} {out want : Int} {zs : List Int} {w W : World} (h : MkI A B1 a7 s (some ⟨g, 0, none⟩) n k1 out want zs w W) (j : Nat) (x : Int) : MkI A B1 a7 s (some ⟨g, 0, none⟩) n k1 out want (zs.set j x) w (W.setCell ⟨g, j, none⟩ (.int .i64 x)) :=
  ⟨⟨hp_set h.box.bl (fun e => h.ne g rfl e.symm) _, h.box.below.setCell (p := ⟨g, _, none⟩) (Nat.le_trans h.hb (own_base' h.row)) _⟩,
   ints_set h.own (fun b o e => by have := h.sep b o e; have := own_base' h.row; omega) _ _, h.sep, by rw [List.map_set]; exact own_setCell h.row _ _, h.ne, h.hb⟩

set_option maxRecDepth 100000 in
set_option maxHeartbeats 2000000 in
theorem checkMakes_big (a : Option Addr) (ca : Nat) (ps : List L) (b : Option Addr) (cb : Nat) (s : List Int) (out : Int) (w : World) (hbig : 100 < ps.length ∨ (ps.length ≤ 100 ∧ 100 < s.length)) :
    Calls Try.prog 9 #[.slice a ps.length ca, .slice b s.length cb, .int .i64 out] w fun e w' => e = .returned (.bool true) ∧ Below w.heap.size w w' := by
  have HL := Lib.hid (fun w => long_any a ps.length ca w)
  have HM := Lib.hid (fun w => large2_any b s.length cb w)
  rcases hbig with g0 | ⟨g0, g1⟩
  · rw [show decide ((100 : Int) < (ps.length : Int)) = true by simp; omega] at HL
    go_enter Try.func9, Try.ntmps9
    go_wp2_with fail
    refine (HL.out _).mono ?_
    rintro e w' ⟨rfl, rfl⟩
    go_wp2_with fail
    refine (known2_true _).mono ?_
    rintro e wk ⟨rfl, hBk⟩
    go_wp2_with fail
    go_ret
    exact ⟨rfl, hBk⟩
  · rw [show decide ((100 : Int) < (ps.length : Int)) = false by simp; omega] at HL
    rw [show decide ((100 : Int) < (s.length : Int)) = true by simp; omega] at HM
    go_enter Try.func9, Try.ntmps9
    go_wp2_with fail
    refine (HL.out _).mono ?_
    rintro e w' ⟨rfl, rfl⟩
    go_wp2_with fail
    refine (HM.out _).mono ?_
    rintro e w' ⟨rfl, rfl⟩
    go_wp2_with fail
    refine (known2_true _).mono ?_
    rintro e wk ⟨rfl, hBk⟩
    go_wp2_with fail
    go_ret
    exact ⟨rfl, hBk⟩

set_option maxRecDepth 100000 in
set_option maxHeartbeats 4000000 in
theorem checkMakes_walk (a : Option Addr) (ca : Nat) (ps : List L) (b : Option Addr) (cb : Nat) (s : List Int) (out : Int) (w : World) (hp : LinesAt w a ps) (hc : a = none → ca = 0) (hs : IntsAt w b s) (hd : b = none → cb = 0) :
    Calls Try.prog 9 #[.slice a ps.length ca, .slice b s.length cb, .int .i64 out] w fun e w' => e = .returned (.bool true) ∧ Below w.heap.size w w' := by
  clear hc
  by_cases hbig : 100 < ps.length ∨ (ps.length ≤ 100 ∧ 100 < s.length)
  · exact checkMakes_big a ca ps b cb s out w hbig
  · have g1 : ps.length ≤ 100 := by omega
    have g2 : s.length ≤ 100 := by omega
    obtain ⟨i0, hi, hz0, hz1, hz2⟩ := info_parts info_int
    have HL := Lib.hid (fun w => long_any a ps.length ca w)
    have HM := Lib.hid (fun w => large2_any b s.length cb w)
    rw [show decide ((100 : Int) < (ps.length : Int)) = false by simp; omega] at HL
    rw [show decide ((100 : Int) < (s.length : Int)) = false by simp; omega] at HM
    have C1 := Lib.hid (fun a7 k7 w hp hs => make_any a a7 ca k7 ps s out w hp hs (by omega))
    have C2 := Lib.hid (fun w hp hs => rMake_any a b ca cb ps s out w hp hs (by omega))
    have hlen : (mkT ps s out).inn.length ≤ 100 := by unfold mkT; split <;> simp <;> omega
    have C3 := Lib.hid (fun a1 k1 w hp hs => passes_C a a1 ca k1 ps (mkT ps s out) w hp hs (by omega))
    have HP := Lib.hid (fun h => mkT_pass (ps := ps) (s := s) (out := out) h)
    generalize passV ps (mkT ps s out) = V at C3 HP
    generalize vpt ps [mkT ps s out] = D at C3 HP
    generalize mkT ps s out = X at C1 C2 C3 hlen HP
    generalize mkC ps s out = c at C1 C2 HP
    generalize hXl : X.inn.length = n at C1 C2 C3 hlen
    have HXl := Lib.hid hXl
    have cn : (c != c) = false := by simp
    clear hbig g1 hXl
    have hcut0 : ∀ (v7 : Value) (W : World), v7 = v7 → True := fun _ _ _ => trivial
    clear hcut0
    go_enter Try.func9, Try.ntmps9
    go_wp2_with fail
    refine (HL.out _).mono ?_
    rintro e w' ⟨rfl, rfl⟩
    go_wp2_with fail
    refine (HM.out _).mono ?_
    rintro e w' ⟨rfl, rfl⟩
    go_upto_region 3 with fail
    go_cut [7] (fun s7 wx => ∃ a7 k7, s7 = .slice a7 s.length k7 ∧ IntsAt wx a7 s ∧ (∀ b o, a7 = some ⟨b, o, none⟩ → b < wx.heap.size) ∧ Below w.heap.size w wx)
    case first =>
      have hown0 := World.ownsRow_lit (base := w.heap.size) (e := 3) (size := 1) w #[] 0 (Nat.le_refl _) (by simp [maxLen]) (by simp)
      cases b with
      | none =>
        have hs0 := hs.none
        subst hs0
        have hd0 := hd rfl
        subst hd0
        clear hd
        go_wp2_with (at_builtin; (refine wpList_append_own_none rfl (.tmp 23) (.tmp 24) 23 rfl w.heap.size 3 i0 1 Try.underlying23 hi _ 0 [] rfl hown0 rfl ?_))
        go_wp2_with fail
        go_meet
        exact ⟨_, _, rfl, .inl rfl, fun b o e => by injection e with e; injection e with e; subst e; simp, (Below.refl _ _).alloc (Nat.le_refl _) _⟩
      | some ad =>
        have HC := Lib.hid hs.cells
        clear hd
        go_wp2_with (at_builtin; (refine wpList_append_own _ rfl (.tmp 23) (.tmp 24) 23 rfl w.heap.size 3 i0 (.int .i64 0) 1 8 Try.underlying23 hi hz0 hz1 hz2 rfl (by decide) _ 0 [] rfl hown0 ad s.length cb (s.map (Value.int .i64)) rfl ?c1 ?c2 ?c3 ?c4 ?c5 ?c6 ?_))
        case c2 => exact fun j z hz => cell_alloc_keep (HC.out j (.int .i64 z) (by simp [hz]))
        case c3 => simp [Value.oneCell']
        case c4 => simp [maxLen]; omega
        case c5 => omega
        intro v' w1 hown1 hgrow _
        have hB : Below w.heap.size w w1 := ((Below.refl _ _).alloc (Nat.le_refl _) _).grown hgrow (by simp) (by rintro k hk; simp [Value.ownBlock] at hk; omega)
        obtain ⟨a7, k7, rfl⟩ := own_slice hown1
        have HO := Lib.hid hown1
        clear hown1 hown0 hgrow
        go_wp2_with fail
        go_meet
        refine ⟨a7, k7, rfl, (ints_of_own HO.out).1, fun b o e => (HO.out.lt b (by rw [e]; rfl)).2, hB⟩
    case rest =>
      obtain ⟨a7, k7, rfl, hi7, hsep, hB7⟩ := hcut
      obtain ⟨wb, rfl⟩ : ∃ wb : World, wb = wc := ⟨_, rfl⟩
      have HI7 := Lib.hid hi7
      have HSEP := Lib.hid hsep
      clear hi7 hsep hd
      go_wp2_with fail
      refine (C1.out _ _ _ (hp.below hB7 (Nat.le_refl _)) HI7.out).mono ?_
      intro e w4 hG
      obtain ⟨a1, k1, rfl, ho, hB4⟩ := hG
      rw [HXl.out]
      have hI : MkI w4.heap.size wb.heap.size a7 s a1 n k1 X.out X.want X.inn w (w4.alloc (.cells #[.slice a1 n k1, .int .i64 X.out, .int .i64 X.want] 25)) := by
        rw [HXl.out] at ho
        have hb4 := hB7.trans (hB4.mono hB7.size)
        have hal : Below w4.heap.size w4 (w4.alloc (.cells #[.slice a1 n k1, .int .i64 X.out, .int .i64 X.want] 25)) := (Below.refl _ _).alloc (Nat.le_refl _) _
        exact ⟨⟨hp_new rfl, hb4.trans (hal.mono hb4.size)⟩, (HI7.out.below hB4 (Nat.le_refl _)).below hal (Nat.le_refl _), HSEP.out, own_below ho hal (Nat.le_refl _), fun g e => by
          have := (ho.lt g (by rw [e]; rfl)).2
          omega, hB7.size⟩
      have HI := Lib.hid hI
      have x0 := HI.out.box.c0
      have x1 := HI.out.box.c1
      have x2 := HI.out.box.c2
      clear hI ho hB4 HSEP hB7
      go_wp2_with fail
      refine (C2.out _ (hp.below HI.out.box.below (Nat.le_refl _)) (hs.below HI.out.box.below (Nat.le_refl _))).mono ?_
      intro e w5 hG
      obtain ⟨a2, k2, rfl, hi2, hB5⟩ := hG
      rw [HXl.out]
      have HJ := Lib.hid (boxT_new (a := a2) (n := n) (ca := k2) (out := X.out) (want := X.want) w5)
      have HI5 := Lib.hid ((HI.out.low hB5).low HJ.out.below)
      have HI2 := Lib.hid (hi2.below HJ.out.below (Nat.le_refl _))
      clear hi2 hB5 HI x0 x1 x2
      have x0 := HI5.out.box.c0
      have x1 := HI5.out.box.c1
      have x2 := HI5.out.box.c2
      have y0 := HJ.out.c0
      have y1 := HJ.out.c1
      have y2 := HJ.out.c2
      go_wp2_with fail
      refine (sameTests_self X n _ _ _ _ _ HXl.out (ints_of_own HI5.out.row).1 HI2.out (by omega)).mono ?_
      rintro e w6 ⟨rfl, hB6⟩
      have HI6 := Lib.hid (HI5.out.low hB6)
      clear hB6 HI5 x0 x1 x2 y0 y1 y2
      have x0 := HI6.out.box.c0
      have x1 := HI6.out.box.c1
      have x2 := HI6.out.box.c2
      go_wp2_with fail
      refine (C3.out _ _ _ (hp.below HI6.out.box.below (Nat.le_refl _)) (ints_of_own HI6.out.row).1).mono ?_
      rintro e w7 ⟨rfl, hB7⟩
      have hI7 := HI6.out.low hB7
      clear hB7 HI6 x0 x1 x2
      go_upto_region 9 with fail
      go_cut [14] (fun s14 wx => s14 = .bool true ∧ MkI w4.heap.size wb.heap.size a7 s a1 n k1 X.out X.want X.inn w wx)
      case first =>
        have HI7 := Lib.hid hI7
        clear hI7
        by_cases hc : c = 0
        · obtain ⟨rfl, rfl⟩ := HP.out hc
          subst hc
          go_wp2_with fail
          go_meet
          exact ⟨rfl, HI7.out⟩
        · have hc1 : (c != 0) = true := by simpa using hc
          have hc2 : (c == 0) = false := by simpa using hc
          clear hc
          go_wp2_with fail
          go_meet
          exact ⟨rfl, HI7.out⟩
      case rest =>
        clear hI7
        obtain ⟨rfl, hI7⟩ := hcut
        have HI8 := Lib.hid hI7
        clear hI7
        go_wp2_with fail
        go_loopw [15] (fun s15 wr => ∃ (k : Nat) (zs : List Int), k ≤ n ∧ s15 = .int .i64 k ∧ zs.length = n ∧ MkI w4.heap.size wb.heap.size a7 s a1 n k1 X.out X.want zs w wr) (fun s15 _ => n - (intOf s15).toNat)
        case atStart => exact ⟨0, X.inn, Nat.zero_le _, rfl, HXl.out, HI8.out⟩
        case round =>
          clear HI8
          obtain ⟨k, zs, hk, rfl, hzl, hI⟩ := hrel
          have x0 := hI.box.c0
          by_cases hlt : k < n
          · obtain ⟨gg, hgg⟩ := own_form hI.row (by omega)
            subst hgg
            have HI := Lib.hid hI
            obtain ⟨z, hz⟩ := get_of_lt (show k < zs.length by omega)
            have m1 := own_cell hI.row (j := k) (v := .int .i64 z) (by simp [hz])
            have m2 := own_free hI.row k
            have HZL := Lib.hid hzl
            clear hI hz hzl
            go_wp2_with fail
            go_roundw
            case rel => exact ⟨k + 1, zs.set k (-1), by omega, by go_num, by rw [List.length_set]; exact HZL.out, HI.out.put k (-1)⟩
            case measure => simp [intOf]; omega
          · have HI := Lib.hid hI
            clear hI
            go_wp2_with fail
            refine (same_self s.length _ _ _ _ s _ rfl HI.out.own (hs.below HI.out.box.below (Nat.le_refl _)) (by omega)).mono ?_
            rintro e w9 ⟨rfl, hB9⟩
            have HI9 := Lib.hid (HI.out.low hB9)
            clear hB9 HI x0
            go_wp2_with fail
            refine (known2_true _).mono ?_
            rintro e wk ⟨rfl, hBk⟩
            go_wp2_with fail
            go_ret
            exact ⟨rfl, (HI9.out.low hBk).box.below⟩

end Go.Proofs.Ytndmjenfgggfbaa
