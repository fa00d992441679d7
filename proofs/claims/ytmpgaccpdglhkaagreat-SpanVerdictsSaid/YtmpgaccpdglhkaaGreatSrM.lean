/- Several texts in one. -/
import Derived.Test.YtmpgaccpdglhkaaGreatSrA
import Derived.Test.YtmpgaccpdglhkaaGreatSpM
import Derived.Test.YtmpgaccpdglhkaaGreatPlain
import Derived.Test.YtmpgaccpdglhkaaGreatTabA
/- hull of the document, of a list of boxes: contract. -/
set_option linter.unusedVariables false
set_option linter.unusedSimpArgs false
namespace Go.Proofs.YtmpgaccpdglhkaaGreat
open Go.RowKit Tinker

/-- A slice's address leads to these boxes. -/
def BoxesAt (w : World) (a : Option Addr) (bs : List (List Rg)) : Prop :=
  bs = [] ∨ ∃ g off, a = some ⟨g, off, none⟩ ∧ g < w.heap.size ∧ ∀ j b, bs[j]? = some b → ∃ ad c, w.cell? ⟨g, off + j, none⟩ = some (.slice ad 4 c) ∧ RangesAt w ad b
theorem BoxesAt.below {w w' : World} {B : Nat} {a : Option Addr} {bs : List (List Rg)} (h : BoxesAt w a bs) (hb : Below B w w') (hB : w.heap.size ≤ B) : BoxesAt w' a bs := by
  rcases h with h | ⟨g, off, e, hlt, hc⟩
  · exact .inl h
  · refine .inr ⟨g, off, e, Nat.lt_of_lt_of_le hlt hb.size, fun j b hj => ?_⟩
    obtain ⟨ad, c, h0, h1⟩ := hc j b hj
    exact ⟨ad, c, (hb.cell (p := ⟨g, _, none⟩) (by show g < B; omega)).trans h0, h1.below hb hB⟩
theorem BoxesAt.at_ {w : World} {a : Option Addr} {bs : List (List Rg)} (h : BoxesAt w a bs) {k : Nat} (hk : k < bs.length) : ∃ g off b ad c, a = some ⟨g, off, none⟩ ∧ g < w.heap.size ∧ bs[k]? = some b ∧ w.cell? ⟨g, off + k, none⟩ = some (.slice ad 4 c) ∧ RangesAt w ad b := by
  obtain ⟨g, off, e, hlb, hc⟩ := h.resolve_left (by rintro rfl; simp at hk)
  obtain ⟨b, hb⟩ := get_of_lt hk
  obtain ⟨ad, c, h0, h1⟩ := hc k b hb
  exact ⟨g, off, b, ad, c, e, hlb, hb, h0, h1⟩
/-- Two boxes, of which the first ranges are joined. -/
def hmix (x y : List Rg) : Nat → List Rg
  | 0 => x
  | r + 1 => (hmix x y r).set r (hullG (x.getD r rg0) (y.getD r rg0))
theorem hmix_len (x y : List Rg) : ∀ r, (hmix x y r).length = x.length
  | 0 => rfl
  | r + 1 => by rw [hmix, List.length_set]; exact hmix_len x y r
theorem hmix_get {x y : List Rg} : ∀ {r k : Nat}, r ≤ k → (hmix x y r)[k]? = x[k]?
  | 0, k, _ => rfl
  | r + 1, k, h => by rw [hmix, List.getElem?_set_ne (by omega)]; exact hmix_get (by omega)
theorem hmix_4 {x y : List Rg} (h : x.length = 4) (h2 : y.length = 4) : hmix x y 4 = hullB x y := by
  obtain ⟨x0, x1, x2, x3, rfl⟩ := rg_list4 h
  obtain ⟨y0, y1, y2, y3, rfl⟩ := rg_list4 h2
  rfl
/-- The hull of all. -/
def hullF (b0 : List Rg) (bs : List (List Rg)) : List Rg := bs.foldl hullB b0
theorem hullF_snoc (b0 : List Rg) (bs : List (List Rg)) (b : List Rg) : hullF b0 (bs ++ [b]) = hullB (hullF b0 bs) b := by simp [hullF]
theorem hullF_len {b0 : List Rg} : ∀ {bs : List (List Rg)}, b0.length = 4 → (∀ b ∈ bs, b.length = 4) → (hullF b0 bs).length = 4
  | [], h, _ => h
  | b :: q, h, h2 => by
    show (hullF (hullB b0 b) q).length = 4
    exact hullF_len (hullB_l h (h2 b (by simp))) (fun c hc => h2 c (by simp [hc]))

set_option maxRecDepth 100000 in
set_option maxHeartbeats 8000000 in
theorem rhull_any (a : Option Addr) (ca : Nat) (b0 : List Rg) (bs : List (List Rg)) (w : World) (h : BoxesAt w a (b0 :: bs)) (h4 : b0.length = 4) (hbs : ∀ b ∈ bs, b.length = 4) (hm : bs.length ≤ 100) :
    Calls Tryz.prog 55 #[.slice a (bs.length + 1) ca] w (GivesRg (hullF b0 bs) w) := by
  obtain ⟨i0, hi, hz0, hz1, hz2⟩ := info_parts info_range
  have hown := World.ownsRow_lit (base := w.heap.size) (e := 37) (size := 2) w #[] 0 (Nat.le_refl _) (by simp [maxLen]) (by simp)
  have HBX := Lib.hid h
  obtain ⟨g, off, b, ad, c, rfl, hlg, hb, c0, hr⟩ := h.at_ (k := 0) (by simp)
  simp only [List.getElem?_cons_zero, Option.some.injEq] at hb
  subst hb
  rw [Nat.add_zero] at c0
  obtain ⟨ga, offa, rfl, _⟩ := id (hr.resolve_left (by rintro rfl; simp at h4))
  have HC := Lib.hid hr.cells
  have hn : (0 : Int) < ((bs.length + 1 : Nat) : Int) := by omega
  obtain ⟨HF, q1, q2, q3, q4⟩ : ∃ HF : Nat → List Rg, (∀ k, (HF k).length = 4) ∧ HF 0 = b0 ∧ (∀ k b, bs[k]? = some b → HF (k + 1) = hullB (HF k) b) ∧ HF bs.length = hullF b0 bs :=
    ⟨fun k => hullF b0 (bs.take k), fun k => hullF_len h4 (fun b hb => hbs b (List.mem_of_mem_take hb)), rfl, fun k b hb => by show hullF b0 (bs.take (k + 1)) = _; rw [take_snoc hb, hullF_snoc], by show hullF b0 (bs.take bs.length) = _; rw [List.take_length]⟩
  have HFL := Lib.hid q1
  have HT0 := Lib.hid q2
  have HTS := Lib.hid q3
  have HL4 := Lib.hid hbs
  have H4 := Lib.hid h4
  have ho4 : 4 ≤ maxLen := by decide
  rw [← q4]
  clear q1 q2 q3 q4
  clear h hr hbs h4
  go_enter Tryz.func55, Tryz.ntmps55
  go_wp2_with (at_builtin; (refine wpList_append_own _ rfl (.tmp 6) (.tmp 9) 38 rfl w.heap.size 37 i0 (.agg #[.int .i64 0, .int .i64 0]) 2 16 Tryz.underlying38 hi hz0 hz1 hz2 rfl (by decide) _ 0 [] rfl hown ⟨ga, offa, none⟩ 4 c (gc b0) rfl ?c1 ?c2 ?c3 ?c4 ?c5 ?c6 ?_))
  case c1 => rw [gc_length, H4.out]
  case c2 => intro j u hu; have q := HC.out j u hu; rw [show (⟨ga, offa, none⟩ : Addr).add j = ⟨ga, offa + j, none⟩ by simp [Addr.add]] at q; exact q
  case c3 => exact gc_one b0
  intro v' w1 hown1 hgrow _
  have HB := Lib.hid (((Below.refl w.heap.size w).alloc (Nat.le_refl _) _).grown hgrow (by simp) (by rintro k hk; simp [Value.ownBlock] at hk; omega))
  obtain ⟨a', cc, rfl⟩ := own_slice hown1
  obtain ⟨gg, rfl⟩ := own_form hown1 (by omega)
  have HO := Lib.hid (show w1.ownsRow w.heap.size 37 2 (.slice (some ⟨gg, 0, none⟩) 4 cc) 4 (gc b0) by simpa using hown1)
  clear hown1 hown hgrow c0 HC
  have HB0 := Lib.hid HB.out
  go_wp2_with fail
  go_loopw [4] (fun s4 wr => ∃ k : Nat, k ≤ bs.length ∧ s4 = .int .i64 ((k : Int) + 1) ∧ wr.ownsRow w.heap.size 37 2 (.slice (some ⟨gg, 0, none⟩) 4 cc) 4 (gc (HF k)) ∧ Below w.heap.size w wr) (fun s4 _ => bs.length + 1 - (intOf s4).toNat)
  case atStart => exact ⟨0, Nat.zero_le _, rfl, by rw [HT0.out]; exact HO.out, HB0.out⟩
  case round =>
    clear HO HB0 HB
    obtain ⟨k, hk, rfl, hO, hB⟩ := hrel
    by_cases hlt : k < bs.length
    · obtain ⟨g', off', b, ad, c', e', hlg', hb', d0, hr'⟩ := HBX.out.at_ (k := k + 1) (by simpa using hlt)
      injection e' with e'
      injection e' with e1 e2
      subst e1 e2
      have hb' : bs[k]? = some b := by simpa using hb'
      have hb4 := HL4.out b (mem_of_get hb')
      have HST := Lib.hid (HTS.out k b hb')
      have HX := Lib.hid (HFL.out k)
      have HXB := Lib.hid (hmix_4 (HFL.out k) hb4)
      obtain ⟨gb, offb, rfl, _, _⟩ := id (hr'.resolve_left (by rintro rfl; simp at hb4))
      have HR := Lib.hid hr'
      have HY := Lib.hid hb4
      have hO0 := hO
      generalize HF k = x at *
      have HB := Lib.hid hB
      have HDD := Lib.hid (show ∀ W, Below w.heap.size w W → W.cell? ⟨g, off + (k + 1), none⟩ = some (.slice (some ⟨gb, offb, none⟩) 4 c') from fun W h => (h.cell (p := ⟨g, _, none⟩) hlg).trans d0)
      have hO1 := Lib.hid (show wr.ownsRow w.heap.size 37 2 (.slice (some ⟨gg, 0, none⟩) 4 cc) 4 (gc (hmix x b 0)) from hO)
      have hlt1 : ((k : Int) + 1) < ((bs.length + 1 : Nat) : Int) := by omega
      clear hO hO0 hB d0 hr' hb' hb4
      go_wp2_with fail
      go_loopw [5] (fun s5 wx => ∃ r : Nat, r ≤ 4 ∧ s5 = .int .i64 r ∧ wx.ownsRow w.heap.size 37 2 (.slice (some ⟨gg, 0, none⟩) 4 cc) 4 (gc (hmix x b r)) ∧ Below w.heap.size w wx) (fun s5 _ => 4 - (intOf s5).toNat)
      case atStart => exact ⟨0, Nat.zero_le _, rfl, hO1.out, HB.out⟩
      case round =>
        clear hO1 HB
        obtain ⟨r, hr, rfl, hO, hB⟩ := hrel
        by_cases hlr : r < 4
        · obtain ⟨xr, hxr⟩ := get_of_lt (show r < x.length by rw [HX.out]; exact hlr)
          obtain ⟨g2, off2, y, e2, hlg2, hy, f0, f1⟩ := (HR.out.below hB (Nat.le_refl _)).at_ (show r < b.length by rw [HY.out]; exact hlr)
          injection e2 with e2
          injection e2 with e3 e4
          subst e3 e4
          have hml : (hmix x b r).length = 4 := by rw [hmix_len]; exact HX.out
          have hmg : (hmix x b r)[r]? = some xr := by rw [hmix_get (Nat.le_refl _)]; exact hxr
          obtain ⟨p0, p1⟩ := gc_get hmg
          have hST : hmix x b (r + 1) = (hmix x b r).set r (hullG xr y) := by rw [hmix, getD_of_get hxr, getD_of_get hy]
          have HSR := Lib.hid (show gc (hmix x b (r + 1)) = ((gc (hmix x b r)).set (r * 2) (.int .i64 (min xr.lo y.lo))).set (r * 2 + 1) (.int .i64 (max xr.hi y.hi)) by rw [hST, gc_set _ (by rw [hml]; exact hlr)]; rfl)
          have HP1 := Lib.hid p1
          have c0 := own_cell hO p0
          have d0 := HDD.out _ hB
          have fr := own_free hO (r * 2)
          have HO := Lib.hid hO
          have HB := Lib.hid hB
          have HLT := Lib.hid (show ∀ W, Below w.heap.size w W → W.cell? ⟨gb, offb + r * 2 + 1, none⟩ = some (.int .i64 y.hi) from fun W h => by
            obtain ⟨g3, off3, y3, e3, _, hy3, _, f3⟩ := (HR.out.below h (Nat.le_refl _)).at_ (show r < b.length by rw [HY.out]; exact hlr)
            injection e3 with e3
            injection e3 with e4 e5
            subst e4 e5
            rw [hy] at hy3
            injection hy3 with hy3
            subst hy3
            exact f3)
          have HGB := Lib.hid (own_base' hO)
          generalize gc (hmix x b r) = Z at *
          clear hO hB hxr hy p0 p1 hml hmg hST f1
          have hr1 : (0 : Int) ≤ (r : Int) := by omega
          have hr2 : (r : Int) < 4 := by omega
          obtain ⟨mn, hmn⟩ : ∃ mn, mn = min xr.lo y.lo := ⟨_, rfl⟩
          rw [← hmn] at HSR
          by_cases q : xr.lo ≤ y.lo
          · obtain rfl : mn = xr.lo := by omega
            have q' : ¬ y.lo < xr.lo := by omega
            clear hmn q
            have q : xr.lo ≤ y.lo := by omega
            go_wp2_with fail
            go_region
            all_goals go_wp2_with fail
            have HO2 := Lib.hid (own_setCell HO.out (r * 2) (.int .i64 xr.lo))
            have HB2 := Lib.hid ((HB.out.setCell (p := ⟨gg, r * 2, none⟩) HGB.out (.int .i64 xr.lo)).drew)
            have c1 : (wr.setCell ⟨gg, r * 2, none⟩ (.int .i64 xr.lo)).drew.cell? ⟨gg, r * 2 + 1, none⟩ = some (.int .i64 xr.hi) := own_cell HO2.out (by rw [List.getElem?_set_ne (by omega)]; exact HP1.out)
            have d1 := HDD.out _ HB2.out
            have f1 := HLT.out _ HB2.out
            have fr2 : (wr.setCell ⟨gg, r * 2, none⟩ (.int .i64 xr.lo)).drew.frozen? ⟨gg, r * 2 + 1, none⟩ = false := own_free HO2.out _
            replace HO2 : Hid ((wr.setCell ⟨gg, r * 2, none⟩ (.int .i64 xr.lo)).drew.ownsRow _ _ _ _ _ _) := Lib.hid HO2.out
            generalize (wr.setCell ⟨gg, r * 2, none⟩ (.int .i64 xr.lo)).drew = W2 at *
            clear c0 d0 fr
            obtain ⟨mx, hmx⟩ : ∃ mx, mx = max xr.hi y.hi := ⟨_, rfl⟩
            rw [← hmx] at HSR
            by_cases p : y.hi ≤ xr.hi
            · obtain rfl : mx = xr.hi := by omega
              have p' : ¬ xr.hi < y.hi := by omega
              have p2' : y.hi ≤ xr.hi := by omega
              clear hmx p
              go_region
              all_goals go_wp2_with fail
              all_goals go_roundw
              all_goals first | (simp [intOf]; omega) | exact ⟨r + 1, by omega, by go_num, by rw [HSR.out]; exact own_setCell HO2.out (r * 2 + 1) (.int .i64 xr.hi), (HB2.out.setCell (p := ⟨_, _, none⟩) HGB.out _).drew⟩
            · obtain rfl : mx = y.hi := by omega
              have p' : xr.hi < y.hi := by omega
              have p2' : ¬ y.hi ≤ xr.hi := by omega
              clear hmx p
              go_region
              all_goals go_wp2_with fail
              all_goals go_roundw
              all_goals first | (simp [intOf]; omega) | exact ⟨r + 1, by omega, by go_num, by rw [HSR.out]; exact own_setCell HO2.out (r * 2 + 1) (.int .i64 y.hi), (HB2.out.setCell (p := ⟨_, _, none⟩) HGB.out _).drew⟩
          · obtain rfl : mn = y.lo := by omega
            have q' : y.lo < xr.lo := by omega
            clear hmn
            go_wp2_with fail
            go_region
            all_goals go_wp2_with fail
            have HO2 := Lib.hid (own_setCell HO.out (r * 2) (.int .i64 y.lo))
            have HB2 := Lib.hid ((HB.out.setCell (p := ⟨gg, r * 2, none⟩) HGB.out (.int .i64 y.lo)).drew)
            have c1 : (wr.setCell ⟨gg, r * 2, none⟩ (.int .i64 y.lo)).drew.cell? ⟨gg, r * 2 + 1, none⟩ = some (.int .i64 xr.hi) := own_cell HO2.out (by rw [List.getElem?_set_ne (by omega)]; exact HP1.out)
            have d1 := HDD.out _ HB2.out
            have f1 := HLT.out _ HB2.out
            have fr2 : (wr.setCell ⟨gg, r * 2, none⟩ (.int .i64 y.lo)).drew.frozen? ⟨gg, r * 2 + 1, none⟩ = false := own_free HO2.out _
            replace HO2 : Hid ((wr.setCell ⟨gg, r * 2, none⟩ (.int .i64 y.lo)).drew.ownsRow _ _ _ _ _ _) := Lib.hid HO2.out
            generalize (wr.setCell ⟨gg, r * 2, none⟩ (.int .i64 y.lo)).drew = W2 at *
            clear c0 d0 fr
            obtain ⟨mx, hmx⟩ : ∃ mx, mx = max xr.hi y.hi := ⟨_, rfl⟩
            rw [← hmx] at HSR
            by_cases p : y.hi ≤ xr.hi
            · obtain rfl : mx = xr.hi := by omega
              have p' : ¬ xr.hi < y.hi := by omega
              have p2' : y.hi ≤ xr.hi := by omega
              clear hmx p
              go_region
              all_goals go_wp2_with fail
              all_goals go_roundw
              all_goals first | (simp [intOf]; omega) | exact ⟨r + 1, by omega, by go_num, by rw [HSR.out]; exact own_setCell HO2.out (r * 2 + 1) (.int .i64 xr.hi), (HB2.out.setCell (p := ⟨_, _, none⟩) HGB.out _).drew⟩
            · obtain rfl : mx = y.hi := by omega
              have p' : xr.hi < y.hi := by omega
              have p2' : ¬ y.hi ≤ xr.hi := by omega
              clear hmx p
              go_region
              all_goals go_wp2_with fail
              all_goals go_roundw
              all_goals first | (simp [intOf]; omega) | exact ⟨r + 1, by omega, by go_num, by rw [HSR.out]; exact own_setCell HO2.out (r * 2 + 1) (.int .i64 y.hi), (HB2.out.setCell (p := ⟨_, _, none⟩) HGB.out _).drew⟩
        · have : r = 4 := by omega
          subst this
          rw [show ((4 : Nat) : Int) = 4 from rfl]
          go_wp2_with fail
          go_roundw
          case rel => exact ⟨k + 1, by omega, by go_num, by rw [HST.out, ← HXB.out]; exact hO, hB⟩
          case measure => simp [intOf]; omega
    · have : k = bs.length := by omega
      subst this
      have hlt1 : ¬ ((bs.length : Int) + 1) < ((bs.length + 1 : Nat) : Int) := by omega
      go_wp2_with fail
      go_ret
      exact givesRg_of (HFL.out _) hO hB

end Go.Proofs.YtmpgaccpdglhkaaGreat

/- All boxes that come to the lines, in memory: a block of rows of boxes. -/
set_option linter.unusedVariables false
set_option linter.unusedSimpArgs false
namespace Go.Proofs.YtmpgaccpdglhkaaGreat
open Go.RowKit Tinker

theorem own_same {w w' : World} {base size n : Nat} {e : TypeId} {v : Value} {xs : List Value} (h : w.ownsRow base e size v n xs) (hs : ∀ g, v.ownBlock = some g → w'.heap[g]? = w.heap[g]?) : w'.ownsRow base e size v n xs := by
  refine ⟨h.1, ?_⟩
  rcases h.2 with hn | ⟨g, cap, cur, rfl, hbg, hg, rest⟩
  · exact .inl hn
  · exact .inr ⟨g, cap, cur, rfl, hbg, (hs g rfl).trans hg, rest⟩
theorem RangesAt.same {w w' : World} {a : Option Addr} {b : List Rg} (h : RangesAt w a b) (hs : ∀ g off, a = some ⟨g, off, Option.none⟩ → g < w.heap.size → w'.heap[g]? = w.heap[g]? ∧ g < w'.heap.size) : RangesAt w' a b := by
  rcases h with h | ⟨g, off, e, hlt, hc⟩
  · exact .inl h
  · obtain ⟨h1, h2⟩ := hs g off e hlt
    refine .inr ⟨g, off, e, h2, fun j l hj => ?_⟩
    obtain ⟨h3, h4⟩ := hc j l hj
    exact ⟨(cell_heap h1 _).trans h3, (cell_heap h1 _).trans h4⟩
/-- A box that does not change: it lies below a base, or in a block of ranges. -/
def Kept (base : Nat) (W : World) (a : Option Addr) (b : List Rg) : Prop :=
  RangesAt W a b ∧ ∃ g off, a = some ⟨g, off, none⟩ ∧ g < W.heap.size ∧ (g < base ∨ ∃ cs fr, W.heap[g]? = some (.cells cs 37 fr))
theorem Kept.same {base : Nat} {W W' : World} {a : Option Addr} {b : List Rg} (h : Kept base W a b) (hz : W.heap.size ≤ W'.heap.size)
    (hs : ∀ g, g < W.heap.size → (g < base ∨ ∃ cs fr, W.heap[g]? = some (.cells cs 37 fr)) → W'.heap[g]? = W.heap[g]?) : Kept base W' a b := by
  obtain ⟨h1, g, off, e, hlt, hk⟩ := h
  have hq := hs g hlt hk
  refine ⟨h1.same fun g' off' e' _ => ?_, g, off, e, by omega, hk.imp id fun ⟨cs, fr, hc⟩ => ⟨cs, fr, hq.trans hc⟩⟩
  rw [e] at e'
  injection e' with e'
  injection e' with e1 _ _
  subst e1
  exact ⟨hq, by omega⟩
theorem Kept.low {base : Nat} {W W' : World} {a : Option Addr} {b : List Rg} (h : Kept base W a b) (hb : Below W.heap.size W W') : Kept base W' a b :=
  h.same hb.size fun g hg _ => hb.block g hg
theorem kept_own {base : Nat} {W : World} {a : Option Addr} {n c : Nat} {b : List Rg} (h : W.ownsRow base 37 2 (.slice a n c) n (gc b)) (hn : 0 < n) : Kept base W a b := by
  refine ⟨(ranges_of_own h).1, ?_⟩
  rcases h.2 with ⟨he, hn'⟩ | ⟨g, cap, cur, he, hbg, hg, rest⟩
  · omega
  · injection he with ha _ _
    exact ⟨g, 0, ha, hp_lt hg, .inr ⟨_, _, hg⟩⟩
theorem kept_old {base : Nat} {W : World} {a : Option Addr} {b : List Rg} {w : World} (h : RangesAt w a b) (h4 : b.length = 4) (hb : Below w.heap.size w W) (hz : w.heap.size ≤ base) : Kept base W a b := by
  refine ⟨h.below hb (Nat.le_refl _), ?_⟩
  obtain ⟨g, off, e, hlt, _⟩ := h.resolve_left (by rintro rfl; simp at h4)
  exact ⟨g, off, e, Nat.lt_of_lt_of_le hlt hb.size, .inl (by omega)⟩

/-- The block M holds rows of boxes. -/
structure DocI (w : World) (M : Nat) (st : List (List (List Rg))) (xs : List Value) (W : World) : Prop where
  blk : W.heap[M]? = some (.cells xs.toArray 89 (0, 0))
  len : xs.length = st.length
  bm : w.heap.size ≤ M
  row : ∀ j, j < st.length → ∃ (v : Value) (ys : List Value), xs[j]? = some v ∧ W.ownsRow w.heap.size 38 1 v (st.getD j []).length ys ∧
    ∀ (k : Nat) (b : List Rg), (st.getD j [])[k]? = some b → ∃ (a : Option Addr) (c : Nat), ys[k]? = some (Value.slice a 4 c) ∧ Kept w.heap.size W a b
  apart : ∀ (i j : Nat) (v u : Value) (g : Nat), i ≠ j → xs[i]? = some v → xs[j]? = some u → v.ownBlock = some g → u.ownBlock ≠ some g
  below : Below w.heap.size w W
theorem DocI.low {w : World} {M : Nat} {st : List (List (List Rg))} {xs : List Value} {W W' : World} (h : DocI w M st xs W) (hb : Below W.heap.size W W') : DocI w M st xs W' :=
  ⟨hp_below h.blk hb (hp_lt h.blk), h.len, h.bm, fun j hj => by
    obtain ⟨v, ys, h1, h2, h3⟩ := h.row j hj
    refine ⟨v, ys, h1, own_below h2 hb (Nat.le_refl _), fun k b hk => ?_⟩
    obtain ⟨a, c, h4, h5⟩ := h3 k b hk
    exact ⟨a, c, h4, h5.low hb⟩, h.apart, h.below.trans (hb.mono h.below.size)⟩
/-- A row, as the walk reads it. -/
theorem DocI.at_ {w : World} {M : Nat} {st : List (List (List Rg))} {xs : List Value} {W : World} (h : DocI w M st xs W) {j : Nat} (hj : j < st.length) :
    ∃ (n : Nat) (a : Option Addr) (c : Nat) (ys : List Value), (st.getD j []).length = n ∧ xs[j]? = some (Value.slice a n c) ∧ W.cell? ⟨M, j, none⟩ = some (Value.slice a n c) ∧ W.ownsRow w.heap.size 38 1 (.slice a n c) n ys ∧
    (∀ (k : Nat) (b : List Rg), (st.getD j [])[k]? = some b → ∃ (a : Option Addr) (c : Nat), ys[k]? = some (Value.slice a 4 c) ∧ Kept w.heap.size W a b) ∧ BoxesAt W a (st.getD j []) := by
  obtain ⟨v, ys, h1, h2, h3⟩ := h.row j hj
  obtain ⟨a, c, rfl⟩ := own_slice h2
  refine ⟨_, a, c, ys, rfl, h1, hp_cell h.blk (by simpa using h1), h2, h3, ?_⟩
  rcases Nat.eq_zero_or_pos (st.getD j []).length with h0 | h0
  · exact .inl (List.eq_nil_of_length_eq_zero h0)
  · obtain ⟨g, rfl⟩ := own_form h2 h0
    refine .inr ⟨g, 0, rfl, own_lt h2, fun k b hk => ?_⟩
    obtain ⟨a', c', h4, h5⟩ := h3 k b hk
    exact ⟨a', c', by rw [Nat.zero_add]; exact own_cell h2 h4, h5.1⟩
/-- A row has grown by a box, and its slice is laid back. -/
theorem DocI.push {w : World} {M : Nat} {st : List (List (List Rg))} {xs ys : List Value} {W W3 W4 : World} (h : DocI w M st xs W) {j : Nat} (hj : j < st.length) {v v' : Value} {a : Option Addr} {c : Nat} {b : List Rg}
    {n : Nat} (hn : (st.getD j []).length = n) (hv : xs[j]? = some v) (ho : W.ownsRow w.heap.size 38 1 v n ys)
    (hys : ∀ (k : Nat) (b : List Rg), (st.getD j [])[k]? = some b → ∃ (a : Option Addr) (c : Nat), ys[k]? = some (Value.slice a 4 c) ∧ Kept w.heap.size W a b)
    (hk : Kept w.heap.size W a b)
    (hown : W3.ownsRow w.heap.size 38 1 v' (n + 1) (ys ++ [.slice a 4 c])) (hgrow : W.grownBy W3 v.ownBlock) (hat : v'.ownBlock = v.ownBlock ∨ v'.ownBlock = some W.heap.size)
    (hb : Below W3.heap.size W3 W4) :
    DocI w M (dRecv st j b) (xs.set j v') (W4.setCell ⟨M, j, none⟩ v') := by
  subst hn
  have hML := hp_lt h.blk
  have hyl : ys.length = (st.getD j []).length := by simpa using ho.1
  have hxl := h.len
  -- the row's block
  have hvb : ∀ g, v.ownBlock = some g → w.heap.size ≤ g ∧ g < W.heap.size ∧ ∃ cs fr, W.heap[g]? = some (.cells cs 38 fr) := fun g hg => by
    obtain ⟨q1, q2⟩ := ho.lt g hg
    refine ⟨q1, q2, ?_⟩
    rcases ho.2 with ⟨rfl, _⟩ | ⟨g', cap, cur, rfl, _, hg', _⟩
    · simp [Value.ownBlock] at hg
    · have : g' = g := by simpa [Value.ownBlock] using hg
      subst this
      exact ⟨_, _, hg'⟩
  have hvM : v.ownBlock ≠ some M := fun e => by
    obtain ⟨_, _, cs, fr, hq⟩ := hvb M e
    rw [h.blk] at hq
    injection hq with hq
    injection hq with _ hq
    exact absurd hq (by decide)
  have hvM' : v'.ownBlock ≠ some M := fun e => by
    rcases hat with q | q
    · exact hvM (q.symm.trans e)
    · rw [q] at e; injection e with e; omega
  -- what stays
  have hsame : ∀ g, g < W.heap.size → v.ownBlock ≠ some g → g ≠ M → (W4.setCell ⟨M, j, none⟩ v').heap[g]? = W.heap[g]? := fun g hg h1 h2 => by
    rw [Below.heap_setCell W4 ⟨M, j, none⟩ _ g h2, hb.block g (Nat.lt_of_lt_of_le hg hgrow.size)]
    exact hgrow.block g hg (fun e => h1 e.symm)
  have hkept : ∀ {a : Option Addr} {b : List Rg}, Kept w.heap.size W a b → Kept w.heap.size (W4.setCell ⟨M, j, none⟩ v') a b := fun {a b} hq => by
    refine hq.same (by have := hgrow.size; have := hb.size; simp [World.setCell]; omega) fun g hg ht => hsame g hg (fun e => ?_) (fun e => ?_)
    · obtain ⟨q1, _, cs, fr, q2⟩ := hvb g e
      rcases ht with ht | ⟨cs', fr', ht⟩
      · omega
      · rw [q2] at ht
        injection ht with ht
        injection ht with _ ht
        exact absurd ht (by decide)
    · subst e
      have := h.bm
      rcases ht with ht | ⟨cs', fr', ht⟩
      · omega
      · rw [h.blk] at ht
        injection ht with ht
        injection ht with _ ht
        exact absurd ht (by decide)
  have hlen : (dRecv st j b).length = st.length := dRecv_len st j b
  refine ⟨?_, by rw [List.length_set, hlen]; exact hxl, h.bm, fun k hk' => ?_, ?_, ?_⟩
  · have q : W4.heap[M]? = some (.cells xs.toArray 89 (0, 0)) := by
      rw [hb.block M (Nat.lt_of_lt_of_le hML hgrow.size), hgrow.block M hML (fun e => hvM e.symm)]
      exact h.blk
    have := hp_put q j v'
    rwa [List.setIfInBounds_toArray] at this
  · rw [hlen] at hk'
    by_cases e : j = k
    · subst e
      refine ⟨v', ys ++ [.slice a 4 c], by rw [List.getElem?_set_self (by omega)], ?_, ?_⟩
      · rw [dRecv_same hj, List.length_append]
        refine own_same (own_below hown hb (Nat.le_refl _)) fun g hg => Below.heap_setCell W4 ⟨M, j, none⟩ _ g (fun e => hvM' (by rw [hg]; exact congrArg some e))
      · rw [dRecv_same hj]
        intro i b' hi
        rcases Nat.lt_or_ge i (st.getD j []).length with hlt | hge
        · rw [List.getElem?_append_left hlt] at hi
          obtain ⟨a', c', q1, q2⟩ := hys i b' hi
          exact ⟨a', c', by rw [List.getElem?_append_left (by omega)]; exact q1, hkept q2⟩
        · rw [List.getElem?_append_right hge] at hi
          have hi0 : i = (st.getD j []).length := by
            have := (List.getElem?_eq_some_iff.1 hi).1
            simp only [List.length_singleton] at this; omega
          rw [hi0, Nat.sub_self, List.getElem?_cons_zero] at hi
          injection hi with hi
          subst hi
          exact ⟨a, c, by rw [List.getElem?_append_right (by omega), hi0, hyl]; simp, hkept hk⟩
    · obtain ⟨u, zs, q1, q2, q3⟩ := h.row k hk'
      have hne : ∀ g, u.ownBlock = some g → v.ownBlock ≠ some g := fun g hg => h.apart k j u v g (fun e' => e e'.symm) q1 hv hg
      refine ⟨u, zs, by rw [List.getElem?_set_ne e]; exact q1, ?_, ?_⟩
      · rw [dRecv_other e]
        refine own_same q2 fun g hg => hsame g (q2.lt g hg).2 (hne g hg) (fun e' => ?_)
        subst e'
        rcases q2.2 with ⟨rfl, _⟩ | ⟨g', cap, cur, rfl, _, hg', _⟩
        · simp [Value.ownBlock] at hg
        · have : g' = g := by simpa [Value.ownBlock] using hg
          subst this
          rw [h.blk] at hg'
          injection hg' with hg'
          injection hg' with _ hg'
          exact absurd hg' (by decide)
      · rw [dRecv_other e]
        intro i b' hi
        obtain ⟨a', c', p1, p2⟩ := q3 i b' hi
        exact ⟨a', c', p1, hkept p2⟩
  · intro i k x y g hne hx hy hg
    by_cases e1 : j = i
    · subst e1
      rw [List.getElem?_set_self (by omega)] at hx
      injection hx with hx
      subst hx
      rw [List.getElem?_set_ne hne] at hy
      rcases hat with q | q
      · exact h.apart j k v y g hne hv hy (q.symm.trans hg)
      · rw [q] at hg
        injection hg with hg
        subst hg
        intro hy2
        have hkl : k < st.length := by have := (List.getElem?_eq_some_iff.1 hy).1; omega
        obtain ⟨u, zs, q1, q2, _⟩ := h.row k hkl
        rw [hy] at q1
        injection q1 with q1
        subst q1
        have := (q2.lt _ hy2).2
        omega
    · rw [List.getElem?_set_ne e1] at hx
      by_cases e2 : j = k
      · subst e2
        rw [List.getElem?_set_self (by omega)] at hy
        injection hy with hy
        subst hy
        rcases hat with q | q
        · rw [q]; exact h.apart i j x v g hne hx hv hg
        · rw [q]
          intro hg2
          injection hg2 with hg2
          subst hg2
          have hil : i < st.length := by have := (List.getElem?_eq_some_iff.1 hx).1; omega
          obtain ⟨u, zs, q1, q2, _⟩ := h.row i hil
          rw [hx] at q1
          injection q1 with q1
          subst q1
          have := (q2.lt _ hg).2
          omega
      · rw [List.getElem?_set_ne e2] at hy
        exact h.apart i k x y g hne hx hy hg
  · exact ((h.below.grown hgrow h.below.size (fun k hk => (hvb k hk).1)).trans (hb.mono (by have := h.below.size; have := hgrow.size; omega))).setCell (p := ⟨M, j, none⟩) h.bm _
/-- Other blocks stay. -/
theorem DocI.others {w : World} {M : Nat} {st : List (List (List Rg))} {xs ys : List Value} {W W3 W4 : World} (h : DocI w M st xs W) {n : Nat} {v : Value} (ho : W.ownsRow w.heap.size 38 1 v n ys) (hgrow : W.grownBy W3 v.ownBlock) (hb : Below W3.heap.size W3 W4) (j : Nat) (v' : Value)
    {g : Nat} {cs : Array Value} {t : TypeId} {fr : Nat × Nat} (hg : W.heap[g]? = some (.cells cs t fr)) (ht : t ≠ 38) (ht2 : t ≠ 89) : (W4.setCell ⟨M, j, none⟩ v').heap[g]? = some (.cells cs t fr) := by
  have hgl := hp_lt hg
  have hgM : g ≠ M := fun e => by
    subst e
    rw [h.blk] at hg
    injection hg with hg
    injection hg with _ hg
    exact ht2 hg.symm
  have hvg : some g ≠ v.ownBlock := fun e => by
    rcases ho.2 with ⟨rfl, _⟩ | ⟨g', cap, cur, rfl, _, hg', _⟩
    · simp [Value.ownBlock] at e
    · have : g = g' := by simpa [Value.ownBlock] using e
      subst this
      rw [hg] at hg'
      injection hg' with hg'
      injection hg' with _ hg'
      exact ht hg'
  rw [Below.heap_setCell W4 ⟨M, j, none⟩ _ g hgM, hb.block g (Nat.lt_of_lt_of_le hgl hgrow.size), hgrow.block g hgl hvg]
  exact hg
theorem DocI.blk3 {w : World} {M : Nat} {st : List (List (List Rg))} {xs ys : List Value} {W W3 : World} (h : DocI w M st xs W) {n : Nat} {v : Value} (ho : W.ownsRow w.heap.size 38 1 v n ys) (hgrow : W.grownBy W3 v.ownBlock) : W3.heap[M]? = some (.cells xs.toArray 89 (0, 0)) := by
  have hML := hp_lt h.blk
  refine (hgrow.block M hML fun e => ?_).trans h.blk
  rcases ho.2 with ⟨rfl, _⟩ | ⟨g', cap, cur, rfl, _, hg', _⟩
  · simp [Value.ownBlock] at e
  · have : M = g' := by simpa [Value.ownBlock] using e
    subst this
    rw [h.blk] at hg'
    injection hg' with hg'
    injection hg' with _ hg'
    exact absurd hg' (by decide)
theorem own_block {w : World} {base g n size c : Nat} {e : TypeId} {xs : List Value} (h : w.ownsRow base e size (.slice (some ⟨g, 0, none⟩) n c) n xs) : ∃ cs, w.heap[g]? = some (.cells cs e (0, 0)) := by
  rcases h.2 with ⟨he, _⟩ | ⟨g', cap, cur, he, _, hg, _⟩
  · cases he
  · injection he with ha _ _
    injection ha with ha
    injection ha with ha
    subst ha
    exact ⟨cur, hg⟩

/-- The rows, the box now, and the line now. -/
structure DocR (w : World) (M : Nat) (st : List (List (List Rg))) (xs : List Value) (x : List Rg) (gx cx : Nat) (l : L) (B : Nat) (W : World) : Prop where
  doc : DocI w M st xs W
  own : W.ownsRow w.heap.size 37 2 (.slice (some ⟨gx, 0, none⟩) 4 cx) 4 (gc x)
  lin : W.heap[B]? = some (.cells #[.int .i64 l.op, .int .i64 l.to, .int .i64 l.a, .int .i64 l.b] 42 (0, 0))
theorem DocR.low {w : World} {M : Nat} {st : List (List (List Rg))} {xs : List Value} {x : List Rg} {gx cx : Nat} {l : L} {B : Nat} {W W' : World} (h : DocR w M st xs x gx cx l B W) (hb : Below W.heap.size W W') : DocR w M st xs x gx cx l B W' :=
  ⟨h.doc.low hb, own_below h.own hb (Nat.le_refl _), hp_below h.lin hb (hp_lt h.lin)⟩
theorem DocR.push {w : World} {M : Nat} {st : List (List (List Rg))} {xs ys : List Value} {x : List Rg} {gx cx : Nat} {l : L} {B : Nat} {W W3 W4 : World} (h : DocR w M st xs x gx cx l B W) {j : Nat} (hj : j < st.length) {v v' : Value} {a : Option Addr} {c : Nat} {b : List Rg}
    {n : Nat} (hn : (st.getD j []).length = n) (hv : xs[j]? = some v) (ho : W.ownsRow w.heap.size 38 1 v n ys)
    (hys : ∀ (k : Nat) (b : List Rg), (st.getD j [])[k]? = some b → ∃ (a : Option Addr) (c : Nat), ys[k]? = some (Value.slice a 4 c) ∧ Kept w.heap.size W a b)
    (hk : Kept w.heap.size W a b)
    (hown : W3.ownsRow w.heap.size 38 1 v' (n + 1) (ys ++ [.slice a 4 c])) (hgrow : W.grownBy W3 v.ownBlock) (hat : v'.ownBlock = v.ownBlock ∨ v'.ownBlock = some W.heap.size)
    (hb : Below W3.heap.size W3 W4) :
    DocR w M (dRecv st j b) (xs.set j v') x gx cx l B (W4.setCell ⟨M, j, none⟩ v') := by
  refine ⟨h.doc.push hj hn hv ho hys hk hown hgrow hat hb, ?_, h.doc.others ho hgrow hb j v' h.lin (by decide) (by decide)⟩
  refine own_same h.own fun g hg => ?_
  obtain ⟨cs, hc⟩ := own_block h.own
  have e : gx = g := by simpa [Value.ownBlock] using hg
  subst e
  rw [h.doc.others ho hgrow hb j v' hc (by decide) (by decide), hc]
theorem DocR.cells {w : World} {M : Nat} {st : List (List (List Rg))} {xs : List Value} {x : List Rg} {gx cx : Nat} {l : L} {B : Nat} {W : World} (h : DocR w M st xs x gx cx l B W) :
    W.cell? ⟨B, 0, none⟩ = some (.int .i64 l.op) ∧ W.cell? ⟨B, 1, none⟩ = some (.int .i64 l.to) ∧ W.cell? ⟨B, 2, none⟩ = some (.int .i64 l.a) ∧ W.cell? ⟨B, 3, none⟩ = some (.int .i64 l.b) :=
  ⟨hp_cell h.lin rfl, hp_cell h.lin rfl, hp_cell h.lin rfl, hp_cell h.lin rfl⟩
theorem DocR.rng {w : World} {M : Nat} {st : List (List (List Rg))} {xs : List Value} {x : List Rg} {gx cx : Nat} {l : L} {B : Nat} {W : World} (h : DocR w M st xs x gx cx l B W) (h4 : x.length = 4) {n : Int} (h0 : 0 ≤ n) (h3 : n ≤ 3) :
    W.cell? ⟨gx, n.toNat * 2, none⟩ = some (.int .i64 (gAt x n).lo) ∧ W.cell? ⟨gx, n.toNat * 2 + 1, none⟩ = some (.int .i64 (gAt x n).hi) := by
  obtain ⟨y, hy⟩ := get_of_lt (show n.toNat < x.length by omega)
  have e : gAt x n = y := getD_of_get hy
  rw [e]
  obtain ⟨h1, h2⟩ := gc_get hy
  exact ⟨own_cell h.own h1, own_cell h.own h2⟩

/-- A new block of empty rows, of which the first has a box. -/
theorem docI_new {w W : World} {M n g : Nat} {b : List Rg} {a : Option Addr} {c : Nat} (hb : Below w.heap.size w W) (hM : W.heap[M]? = some (.cells ((List.replicate (n + 1) (Value.slice none 0 0)).set 0 (.slice (some ⟨g, 0, none⟩) 1 1)).toArray 89 (0, 0))) (hbm : w.heap.size ≤ M)
    (hg : W.heap[g]? = some (.cells #[.slice a 4 c] 38 (0, 0))) (hbg : w.heap.size ≤ g) (hk : Kept w.heap.size W a b) :
    DocI w M ((List.replicate (n + 1) []).set 0 [b]) ((List.replicate (n + 1) (Value.slice none 0 0)).set 0 (.slice (some ⟨g, 0, none⟩) 1 1)) W := by
  have hx : ∀ k v, 0 ≠ k → ((List.replicate (n + 1) (Value.slice none 0 0)).set 0 (.slice (some ⟨g, 0, none⟩) 1 1))[k]? = some v → v = .slice none 0 0 := fun k v e hv => by
    rw [List.getElem?_set_ne e, List.getElem?_replicate] at hv
    split at hv
    · injection hv with hv; exact hv.symm
    · cases hv
  refine ⟨hM, by simp, hbm, fun j hj => ?_, ?_, hb⟩
  · simp at hj
    by_cases e : 0 = j
    · subst e
      refine ⟨_, [.slice a 4 c], List.getElem?_set_self (by simp), ?_, ?_⟩
      · rw [gDset_eq (by simp)]
        exact ⟨rfl, .inr ⟨g, 1, _, rfl, hbg, hg, Nat.le_refl _, by decide, rfl, rfl⟩⟩
      · rw [gDset_eq (by simp)]
        intro k b' hkk
        cases k with
        | zero => simp at hkk; subst hkk; exact ⟨a, c, rfl, hk⟩
        | succ k => simp at hkk
    · refine ⟨.slice none 0 0, [], ?_, ?_, ?_⟩
      · rw [List.getElem?_set_ne e, List.getElem?_replicate, if_pos (by omega)]
      · rw [gDset_ne e, List.getD_eq_getElem?_getD, List.getElem?_replicate, if_pos (by omega)]
        exact World.ownsRow_nil _ _ _ _
      · rw [gDset_ne e, List.getD_eq_getElem?_getD, List.getElem?_replicate, if_pos (by omega)]
        intro k b' hkk; simp at hkk
  · intro i j v u g' hne hi hj hv
    by_cases e : 0 = i
    · subst e
      rw [hx j u hne hj]; simp [Value.ownBlock]
    · rw [hx i v e hi] at hv; simp [Value.ownBlock] at hv

end Go.Proofs.YtmpgaccpdglhkaaGreat
