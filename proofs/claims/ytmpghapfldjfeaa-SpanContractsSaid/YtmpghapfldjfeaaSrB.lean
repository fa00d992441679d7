/- hull of the document, of a list of boxes: contract. -/
import Derived.Test.YtmpghapfldjfeaaSrA
import Derived.Test.YtmpghapfldjfeaaSpM
set_option linter.unusedVariables false
set_option linter.unusedSimpArgs false
namespace Go.Proofs.Ytmpghapfldjfeaa
open Go.RowKit Tinker

/-- A slice's address leads to these boxes. -/
def BoxesAt (w : World) (a : Option Addr) (bs : List (List Rg)) : Prop :=
  bs = [] ∨ ∃ g off, a = some ⟨g, off, none⟩ ∧ g < w.heap.size ∧ ∀ j b, bs[j]? = some b → ∃ ad c, w.cell? ⟨g, off + j, none⟩ = some (.slice ad 4 c) ∧ RangesAt w ad b
theorem BoxesAt.below {w w' : World} {B : Nat} {a : Option Addr} {bs : List (List Rg)} (h : BoxesAt w a bs) (hb : Below B w w') (hB : w.heap.size ≤ B) : BoxesAt w' a bs := by
  rcases h with h | ⟨g, off, e, hlt, hc⟩
  · exact .inl h
  · refine .inr ⟨g, off, e, Nat.lt_of_lt_of_le hlt hb.size, fun j b hj => ?_⟩
    obtain ⟨ad, c, h0, h1⟩ := hc j b hj
    exact ⟨ad, c, (hb.cell (p := ⟨g, _, none⟩) (by show g < B; omega)).trans h0, h1.below hb hB⟩
theorem BoxesAt.at_ {w : World} {a : Option Addr} {bs : List (List Rg)} (h : BoxesAt w a bs) {k : Nat} (hk : k < bs.length) : ∃ g off b ad c, a = some ⟨g, off, none⟩ ∧ g < w.heap.size ∧ bs[k]? = some b ∧ w.cell? ⟨g, off + k, none⟩ = some (.slice ad 4 c) ∧ RangesAt w ad b := by
  obtain ⟨g, off, e, hlb, hc⟩ := h.resolve_left (by rintro rfl; simp at hk)
  obtain ⟨b, hb⟩ := get_of_lt hk
  obtain ⟨ad, c, h0, h1⟩ := hc k b hb
  exact ⟨g, off, b, ad, c, e, hlb, hb, h0, h1⟩
/-- Two boxes, of which the first ranges are joined. -/
def hmix (x y : List Rg) : Nat → List Rg
  | 0 => x
  | r + 1 => (hmix x y r).set r (hullG (x.getD r rg0) (y.getD r rg0))
theorem hmix_len (x y : List Rg) : ∀ r, (hmix x y r).length = x.length
  | 0 => rfl
  | r + 1 => by rw [hmix, List.length_set]; exact hmix_len x y r
theorem hmix_get {x y : List Rg} : ∀ {r k : Nat}, r ≤ k → (hmix x y r)[k]? = x[k]?
  | 0, k, _ => rfl
  | r + 1, k, h => by rw [hmix, List.getElem?_set_ne (by omega)]; exact hmix_get (by omega)
theorem hmix_4 {x y : List Rg} (h : x.length = 4) (h2 : y.length = 4) : hmix x y 4 = hullB x y := by
  obtain ⟨x0, x1, x2, x3, rfl⟩ := rg_list4 h
  obtain ⟨y0, y1, y2, y3, rfl⟩ := rg_list4 h2
  rfl
/-- The hull of all. -/
def hullF (b0 : List Rg) (bs : List (List Rg)) : List Rg := bs.foldl hullB b0
theorem hullF_snoc (b0 : List Rg) (bs : List (List Rg)) (b : List Rg) : hullF b0 (bs ++ [b]) = hullB (hullF b0 bs) b := by simp [hullF]
theorem hullF_len {b0 : List Rg} : ∀ {bs : List (List Rg)}, b0.length = 4 → (∀ b ∈ bs, b.length = 4) → (hullF b0 bs).length = 4
  | [], h, _ => h
  | b :: q, h, h2 => by
    show (hullF (hullB b0 b) q).length = 4
    exact hullF_len (hullB_l h (h2 b (by simp))) (fun c hc => h2 c (by simp [hc]))

set_option maxRecDepth 100000 in
set_option maxHeartbeats 8000000 in
theorem rhull_any (a : Option Addr) (ca : Nat) (b0 : List Rg) (bs : List (List Rg)) (w : World) (h : BoxesAt w a (b0 :: bs)) (h4 : b0.length = 4) (hbs : ∀ b ∈ bs, b.length = 4) (hm : bs.length ≤ 100) :
    Calls Try.prog 73 #[.slice a (bs.length + 1) ca] w (GivesRg (hullF b0 bs) w) := by
  obtain ⟨i0, hi, hz0, hz1, hz2⟩ := info_parts info_range
  have hown := World.ownsRow_lit (base := w.heap.size) (e := 39) (size := 2) w #[] 0 (Nat.le_refl _) (by simp [maxLen]) (by simp)
  have HBX := Lib.hid h
  obtain ⟨g, off, b, ad, c, rfl, hlg, hb, c0, hr⟩ := h.at_ (k := 0) (by simp)
  simp only [List.getElem?_cons_zero, Option.some.injEq] at hb
  subst hb
  rw [Nat.add_zero] at c0
  obtain ⟨ga, offa, rfl, _⟩ := id (hr.resolve_left (by rintro rfl; simp at h4))
  have HC := Lib.hid hr.cells
  have hn : (0 : Int) < ((bs.length + 1 : Nat) : Int) := by omega
  obtain ⟨HF, q1, q2, q3, q4⟩ : ∃ HF : Nat → List Rg, (∀ k, (HF k).length = 4) ∧ HF 0 = b0 ∧ (∀ k b, bs[k]? = some b → HF (k + 1) = hullB (HF k) b) ∧ HF bs.length = hullF b0 bs :=
    ⟨fun k => hullF b0 (bs.take k), fun k => hullF_len h4 (fun b hb => hbs b (List.mem_of_mem_take hb)), rfl, fun k b hb => by show hullF b0 (bs.take (k + 1)) = _; rw [take_snoc hb, hullF_snoc], by show hullF b0 (bs.take bs.length) = _; rw [List.take_length]⟩
  have HFL := Lib.hid q1
  have HT0 := Lib.hid q2
  have HTS := Lib.hid q3
  have HL4 := Lib.hid hbs
  have H4 := Lib.hid h4
  have ho4 : 4 ≤ maxLen := by decide
  rw [← q4]
  clear q1 q2 q3 q4
  clear h hr hbs h4
  go_enter Try.func73, Try.ntmps73
  go_wp2_with (at_builtin; (refine wpList_append_own _ rfl (.tmp 6) (.tmp 9) 22 rfl w.heap.size 39 i0 (.agg #[.int .i64 0, .int .i64 0]) 2 16 Try.underlying22 hi hz0 hz1 hz2 rfl (by decide) _ 0 [] rfl hown ⟨ga, offa, none⟩ 4 c (gc b0) rfl ?c1 ?c2 ?c3 ?c4 ?c5 ?c6 ?_))
  case c1 => rw [gc_length, H4.out]
  case c2 => intro j u hu; have q := HC.out j u hu; rw [show (⟨ga, offa, none⟩ : Addr).add j = ⟨ga, offa + j, none⟩ by simp [Addr.add]] at q; exact q
  case c3 => exact gc_one b0
  intro v' w1 hown1 hgrow _
  have HB := Lib.hid (((Below.refl w.heap.size w).alloc (Nat.le_refl _) _).grown hgrow (by simp) (by rintro k hk; simp [Value.ownBlock] at hk; omega))
  obtain ⟨a', cc, rfl⟩ := own_slice hown1
  obtain ⟨gg, rfl⟩ := own_form hown1 (by omega)
  have HO := Lib.hid (show w1.ownsRow w.heap.size 39 2 (.slice (some ⟨gg, 0, none⟩) 4 cc) 4 (gc b0) by simpa using hown1)
  clear hown1 hown hgrow c0 HC
  have HB0 := Lib.hid HB.out
  go_wp2_with fail
  go_loopw [4] (fun s4 wr => ∃ k : Nat, k ≤ bs.length ∧ s4 = .int .i64 ((k : Int) + 1) ∧ wr.ownsRow w.heap.size 39 2 (.slice (some ⟨gg, 0, none⟩) 4 cc) 4 (gc (HF k)) ∧ Below w.heap.size w wr) (fun s4 _ => bs.length + 1 - (intOf s4).toNat)
  case atStart => exact ⟨0, Nat.zero_le _, rfl, by rw [HT0.out]; exact HO.out, HB0.out⟩
  case round =>
    clear HO HB0 HB
    obtain ⟨k, hk, rfl, hO, hB⟩ := hrel
    by_cases hlt : k < bs.length
    · obtain ⟨g', off', b, ad, c', e', hlg', hb', d0, hr'⟩ := HBX.out.at_ (k := k + 1) (by simpa using hlt)
      injection e' with e'
      injection e' with e1 e2
      subst e1 e2
      have hb' : bs[k]? = some b := by simpa using hb'
      have hb4 := HL4.out b (mem_of_get hb')
      have HST := Lib.hid (HTS.out k b hb')
      have HX := Lib.hid (HFL.out k)
      have HXB := Lib.hid (hmix_4 (HFL.out k) hb4)
      obtain ⟨gb, offb, rfl, _, _⟩ := id (hr'.resolve_left (by rintro rfl; simp at hb4))
      have HR := Lib.hid hr'
      have HY := Lib.hid hb4
      have hO0 := hO
      generalize HF k = x at *
      have HB := Lib.hid hB
      have HDD := Lib.hid (show ∀ W, Below w.heap.size w W → W.cell? ⟨g, off + (k + 1), none⟩ = some (.slice (some ⟨gb, offb, none⟩) 4 c') from fun W h => (h.cell (p := ⟨g, _, none⟩) hlg).trans d0)
      have hO1 := Lib.hid (show wr.ownsRow w.heap.size 39 2 (.slice (some ⟨gg, 0, none⟩) 4 cc) 4 (gc (hmix x b 0)) from hO)
      have hlt1 : ((k : Int) + 1) < ((bs.length + 1 : Nat) : Int) := by omega
      clear hO hO0 hB d0 hr' hb' hb4
      go_wp2_with fail
      go_loopw [5] (fun s5 wx => ∃ r : Nat, r ≤ 4 ∧ s5 = .int .i64 r ∧ wx.ownsRow w.heap.size 39 2 (.slice (some ⟨gg, 0, none⟩) 4 cc) 4 (gc (hmix x b r)) ∧ Below w.heap.size w wx) (fun s5 _ => 4 - (intOf s5).toNat)
      case atStart => exact ⟨0, Nat.zero_le _, rfl, hO1.out, HB.out⟩
      case round =>
        clear hO1 HB
        obtain ⟨r, hr, rfl, hO, hB⟩ := hrel
        by_cases hlr : r < 4
        · obtain ⟨xr, hxr⟩ := get_of_lt (show r < x.length by rw [HX.out]; exact hlr)
          obtain ⟨g2, off2, y, e2, hlg2, hy, f0, f1⟩ := (HR.out.below hB (Nat.le_refl _)).at_ (show r < b.length by rw [HY.out]; exact hlr)
          injection e2 with e2
          injection e2 with e3 e4
          subst e3 e4
          have hml : (hmix x b r).length = 4 := by rw [hmix_len]; exact HX.out
          have hmg : (hmix x b r)[r]? = some xr := by rw [hmix_get (Nat.le_refl _)]; exact hxr
          obtain ⟨p0, p1⟩ := gc_get hmg
          have hST : hmix x b (r + 1) = (hmix x b r).set r (hullG xr y) := by rw [hmix, getD_of_get hxr, getD_of_get hy]
          have HSR := Lib.hid (show gc (hmix x b (r + 1)) = ((gc (hmix x b r)).set (r * 2) (.int .i64 (min xr.lo y.lo))).set (r * 2 + 1) (.int .i64 (max xr.hi y.hi)) by rw [hST, gc_set _ (by rw [hml]; exact hlr)]; rfl)
          have HP1 := Lib.hid p1
          have c0 := own_cell hO p0
          have d0 := HDD.out _ hB
          have fr := own_free hO (r * 2)
          have HO := Lib.hid hO
          have HB := Lib.hid hB
          have HLT := Lib.hid (show ∀ W, Below w.heap.size w W → W.cell? ⟨gb, offb + r * 2 + 1, none⟩ = some (.int .i64 y.hi) from fun W h => by
            obtain ⟨g3, off3, y3, e3, _, hy3, _, f3⟩ := (HR.out.below h (Nat.le_refl _)).at_ (show r < b.length by rw [HY.out]; exact hlr)
            injection e3 with e3
            injection e3 with e4 e5
            subst e4 e5
            rw [hy] at hy3
            injection hy3 with hy3
            subst hy3
            exact f3)
          have HGB := Lib.hid (own_base' hO)
          generalize gc (hmix x b r) = Z at *
          clear hO hB hxr hy p0 p1 hml hmg hST f1
          have hr1 : (0 : Int) ≤ (r : Int) := by omega
          have hr2 : (r : Int) < 4 := by omega
          obtain ⟨mn, hmn⟩ : ∃ mn, mn = min xr.lo y.lo := ⟨_, rfl⟩
          rw [← hmn] at HSR
          by_cases q : xr.lo ≤ y.lo
          · obtain rfl : mn = xr.lo := by omega
            have q' : ¬ y.lo < xr.lo := by omega
            clear hmn q
            have q : xr.lo ≤ y.lo := by omega
            go_wp2_with fail
            go_region
            all_goals go_wp2_with fail
            have HO2 := Lib.hid (own_setCell HO.out (r * 2) (.int .i64 xr.lo))
            have HB2 := Lib.hid ((HB.out.setCell (p := ⟨gg, r * 2, none⟩) HGB.out (.int .i64 xr.lo)).drew)
            have c1 : (wr.setCell ⟨gg, r * 2, none⟩ (.int .i64 xr.lo)).drew.cell? ⟨gg, r * 2 + 1, none⟩ = some (.int .i64 xr.hi) := own_cell HO2.out (by rw [List.getElem?_set_ne (by omega)]; exact HP1.out)
            have d1 := HDD.out _ HB2.out
            have f1 := HLT.out _ HB2.out
            have fr2 : (wr.setCell ⟨gg, r * 2, none⟩ (.int .i64 xr.lo)).drew.frozen? ⟨gg, r * 2 + 1, none⟩ = false := own_free HO2.out _
            replace HO2 : Hid ((wr.setCell ⟨gg, r * 2, none⟩ (.int .i64 xr.lo)).drew.ownsRow _ _ _ _ _ _) := Lib.hid HO2.out
            generalize (wr.setCell ⟨gg, r * 2, none⟩ (.int .i64 xr.lo)).drew = W2 at *
            clear c0 d0 fr
            obtain ⟨mx, hmx⟩ : ∃ mx, mx = max xr.hi y.hi := ⟨_, rfl⟩
            rw [← hmx] at HSR
            by_cases p : y.hi ≤ xr.hi
            · obtain rfl : mx = xr.hi := by omega
              have p' : ¬ xr.hi < y.hi := by omega
              have p2' : y.hi ≤ xr.hi := by omega
              clear hmx p
              go_region
              all_goals go_wp2_with fail
              all_goals go_roundw
              all_goals first | (simp [intOf]; omega) | exact ⟨r + 1, by omega, by go_num, by rw [HSR.out]; exact own_setCell HO2.out (r * 2 + 1) (.int .i64 xr.hi), (HB2.out.setCell (p := ⟨_, _, none⟩) HGB.out _).drew⟩
            · obtain rfl : mx = y.hi := by omega
              have p' : xr.hi < y.hi := by omega
              have p2' : ¬ y.hi ≤ xr.hi := by omega
              clear hmx p
              go_region
              all_goals go_wp2_with fail
              all_goals go_roundw
              all_goals first | (simp [intOf]; omega) | exact ⟨r + 1, by omega, by go_num, by rw [HSR.out]; exact own_setCell HO2.out (r * 2 + 1) (.int .i64 y.hi), (HB2.out.setCell (p := ⟨_, _, none⟩) HGB.out _).drew⟩
          · obtain rfl : mn = y.lo := by omega
            have q' : y.lo < xr.lo := by omega
            clear hmn
            go_wp2_with fail
            go_region
            all_goals go_wp2_with fail
            have HO2 := Lib.hid (own_setCell HO.out (r * 2) (.int .i64 y.lo))
            have HB2 := Lib.hid ((HB.out.setCell (p := ⟨gg, r * 2, none⟩) HGB.out (.int .i64 y.lo)).drew)
            have c1 : (wr.setCell ⟨gg, r * 2, none⟩ (.int .i64 y.lo)).drew.cell? ⟨gg, r * 2 + 1, none⟩ = some (.int .i64 xr.hi) := own_cell HO2.out (by rw [List.getElem?_set_ne (by omega)]; exact HP1.out)
            have d1 := HDD.out _ HB2.out
            have f1 := HLT.out _ HB2.out
            have fr2 : (wr.setCell ⟨gg, r * 2, none⟩ (.int .i64 y.lo)).drew.frozen? ⟨gg, r * 2 + 1, none⟩ = false := own_free HO2.out _
            replace HO2 : Hid ((wr.setCell ⟨gg, r * 2, none⟩ (.int .i64 y.lo)).drew.ownsRow _ _ _ _ _ _) := Lib.hid HO2.out
            generalize (wr.setCell ⟨gg, r * 2, none⟩ (.int .i64 y.lo)).drew = W2 at *
            clear c0 d0 fr
            obtain ⟨mx, hmx⟩ : ∃ mx, mx = max xr.hi y.hi := ⟨_, rfl⟩
            rw [← hmx] at HSR
            by_cases p : y.hi ≤ xr.hi
            · obtain rfl : mx = xr.hi := by omega
              have p' : ¬ xr.hi < y.hi := by omega
              have p2' : y.hi ≤ xr.hi := by omega
              clear hmx p
              go_region
              all_goals go_wp2_with fail
              all_goals go_roundw
              all_goals first | (simp [intOf]; omega) | exact ⟨r + 1, by omega, by go_num, by rw [HSR.out]; exact own_setCell HO2.out (r * 2 + 1) (.int .i64 xr.hi), (HB2.out.setCell (p := ⟨_, _, none⟩) HGB.out _).drew⟩
            · obtain rfl : mx = y.hi := by omega
              have p' : xr.hi < y.hi := by omega
              have p2' : ¬ y.hi ≤ xr.hi := by omega
              clear hmx p
              go_region
              all_goals go_wp2_with fail
              all_goals go_roundw
              all_goals first | (simp [intOf]; omega) | exact ⟨r + 1, by omega, by go_num, by rw [HSR.out]; exact own_setCell HO2.out (r * 2 + 1) (.int .i64 y.hi), (HB2.out.setCell (p := ⟨_, _, none⟩) HGB.out _).drew⟩
        · have : r = 4 := by omega
          subst this
          rw [show ((4 : Nat) : Int) = 4 from rfl]
          go_wp2_with fail
          go_roundw
          case rel => exact ⟨k + 1, by omega, by go_num, by rw [HST.out, ← HXB.out]; exact hO, hB⟩
          case measure => simp [intOf]; omega
    · have : k = bs.length := by omega
      subst this
      have hlt1 : ¬ ((bs.length : Int) + 1) < ((bs.length + 1 : Nat) : Int) := by omega
      go_wp2_with fail
      go_ret
      exact givesRg_of (HFL.out _) hO hB

end Go.Proofs.Ytmpghapfldjfeaa
