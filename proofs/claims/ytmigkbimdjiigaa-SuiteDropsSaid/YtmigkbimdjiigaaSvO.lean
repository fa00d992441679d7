/- Suites of the document: Drop: contract. -/
import Derived.Test.YtmigkbimdjiigaaSvN
import Derived.Test.YtmigkbimdjiigaaSuZ
set_option linter.unusedVariables false
set_option linter.unusedSimpArgs false
namespace Tinker
/-- A suite whose first rows have lost a goal. -/
def mixL (t : List (List Int)) (g k : Nat) : List (List Int) := drpL (t.take k) g ++ t.drop k
theorem mix_zero (t : List (List Int)) (g : Nat) : mixL t g 0 = t := by simp [mixL, drpL]
theorem mix_all (t : List (List Int)) (g : Nat) : mixL t g t.length = drpL t g := by simp [mixL]
theorem mix_tk {t : List (List Int)} {g k : Nat} {z : List Int} (h : t[k]? = some z) : (drpL (t.take k) g).length = k ∧ t.drop k = z :: t.drop (k + 1) := by
  obtain ⟨hk, rfl⟩ := List.getElem?_eq_some_iff.1 h
  exact ⟨by rw [drpL_len, List.length_take]; omega, List.drop_eq_getElem_cons hk⟩
theorem mix_at {t : List (List Int)} {g k : Nat} {z : List Int} (h : t[k]? = some z) : (mixL t g k)[k]? = some z := by
  obtain ⟨h1, h2⟩ := mix_tk (g := g) h
  unfold mixL
  rw [List.getElem?_append_right (by omega), h1, Nat.sub_self, h2]
  rfl
theorem mix_set {t : List (List Int)} {g k : Nat} {z : List Int} (h : t[k]? = some z) : (mixL t g k).set k (drpR g z) = mixL t g (k + 1) := by
  obtain ⟨h1, h2⟩ := mix_tk (g := g) h
  unfold mixL
  rw [drpL_take h, h2, List.set_append_right _ _ (by omega), h1, Nat.sub_self, List.set_cons_zero, List.append_assoc]
  rfl
end Tinker
namespace Go.Proofs.Ytmigkbimdjiigaa
open Go.RowKit Tinker

/-- The copy, whose rows are replaced one after another. -/
structure DrpI (w : World) (g N c2 : Nat) (fs : List (List Int)) (ys : List Value) (W : World) : Prop where
  out : W.ownsRow w.heap.size 23 1 (.slice (some ⟨g, 0, Option.none⟩) N c2) N ys
  st : RowC W w.heap.size (some g) fs ys
  cap : ∀ v ∈ ys, CapV v
  below : Below w.heap.size w W
theorem DrpI.low {w : World} {g N c2 : Nat} {fs : List (List Int)} {ys : List Value} {W W' : World} (h : DrpI w g N c2 fs ys W) (hb : Below W.heap.size W W') : DrpI w g N c2 fs ys W' :=
  ⟨own_below h.out hb (Nat.le_refl _), RowC.low8 h.st hb, h.cap, h.below.trans (hb.mono h.below.size)⟩
theorem DrpI.put {w : World} {g N c2 k c : Nat} {fs : List (List Int)} {ys : List Value} {W : World} {a : Option Addr} {y : List Int} (h : DrpI w g N c2 fs ys W) (hk : k < N) (hy : OwnL W w.heap.size (some g) a y) (hc : y.length ≤ c) :
    DrpI w g N c2 (fs.set k y) (ys.set k (.slice a y.length c)) (W.setCell ⟨g, k, Option.none⟩ (.slice a y.length c)) := by
  have hyl : ys.length = N := by simpa using h.out.1
  have hsame : ∀ b, b < W.heap.size → w.heap.size ≤ b → (some g : Option Nat) ≠ some b → (W.setCell ⟨g, k, Option.none⟩ (.slice a y.length c)).heap[b]? = W.heap[b]? := fun b _ _ hne => heap_setCell_other W ⟨g, k, Option.none⟩ b _ (fun e => hne (by rw [e]))
  refine ⟨(h.out.stored k _).1, fun j zs hj => ?_, fun v hv => ?_, h.below.setCell (p := ⟨g, k, Option.none⟩) (own_base h.out g rfl) _⟩
  · by_cases e : j = k
    · subst e
      have hjl : j < fs.length := by have := (List.getElem?_eq_some_iff.1 hj).1; simpa using this
      rw [List.getElem?_set_self hjl] at hj
      injection hj with hj
      subst hj
      exact ⟨a, c, by rw [List.getElem?_set_self (by omega)], hy.same hsame⟩
    · rw [List.getElem?_set_ne (fun h => e h.symm)] at hj
      obtain ⟨a', c', h1, h2⟩ := h.st j zs hj
      exact ⟨a', c', by rw [List.getElem?_set_ne (fun h => e h.symm)]; exact h1, h2.same hsame⟩
  · rcases List.mem_or_eq_of_mem_set hv with h1 | h1
    · exact h.cap v h1
    · rw [h1]
      intro a' n' c' e
      injection e with e1 e2 e3
      omega

set_option maxRecDepth 100000 in
set_option maxHeartbeats 4000000 in
theorem rDrop8_any (a : Option Addr) (ca : Nat) (t : List (List Int)) (r : Int) (w : World) (ht : RowsN w a t) (hl : t.length ≤ 1000) (hm : ∀ z ∈ t, z.length ≤ 1000) :
    Calls Try.prog 54 #[.slice a t.length ca, .int .i64 r] w (GivesRowsA8 (if drpE t r = 0 then drpL t r.toNat else []) (drpE t r) w) := by
  have HV := Lib.hid (rValidate8_any a ca t w ht.at_ hl hm)
  have HG := Lib.hid (fun w h => rGoals8_any a ca t w h)
  by_cases hv : vsu t = 0
  · obtain ⟨hl8, hg10, hrz⟩ := vsu_ok hv
    rw [hv] at HV
    by_cases hr : 0 ≤ r ∧ r < (goalsN t : Int)
    · have hE : drpE t r = 0 := by unfold drpE; rw [if_pos hv, if_pos hr]
      rw [hE, if_pos rfl]
      obtain ⟨gd, rfl⟩ : ∃ g : Nat, r = (g : Int) := ⟨r.toNat, by omega⟩
      rw [show ((gd : Int)).toNat = gd from rfl]
      have hgg : gd < goalsN t := by omega
      have d1 : decide ((gd : Int) < 0) = false := decide_eq_false (by omega)
      have d2 : decide ((goalsN t : Int) ≤ (gd : Int)) = false := decide_eq_false (by omega)
      have d3 : decide (goalsN t ≤ gd) = false := decide_eq_false (by omega)
      obtain ⟨i0, hii, hz0, hz1, hz2⟩ := info_parts info_int
      have htp : 0 < t.length := by
        cases t with
        | nil => exact absurd hgg (by simp [goalsN])
        | cons x y => simp
      have HC := Lib.hid (fun w h => rCopy8c_any a ca t w h hl hm)
      have HZ := Lib.hid (fun z hz => (hrz z hz).1)
      have HT := Lib.hid ht
      generalize goalsN t = G at *
      clear hv ht hm hr hE hrz
      go_enter Try.func54, Try.ntmps54
      go_wp2_with fail
      refine HV.out.mono ?_
      rintro e w1 ⟨rfl, hB⟩
      have HB := Lib.hid hB
      clear hB
      go_wp2_with fail
      refine (HG.out _ (HT.out.at_.below HB.out (Nat.le_refl _))).mono ?_
      rintro e w' ⟨rfl, rfl⟩
      go_wp2_with fail
      refine (HC.out _ (HT.out.below HB.out (Nat.le_refl _))).mono ?_
      rintro e w2 ⟨b2, c2, xs0, rfl, hI0, hcv⟩
      clear d1 d2 d3
      obtain ⟨g, rfl⟩ := own_form hI0.out htp
      have hD0 : DrpI w1 g t.length c2 (mixL t gd 0) xs0 w2 := ⟨hI0.out, by rw [mix_zero]; exact hI0.st, hcv, hI0.below⟩
      have HD0 := Lib.hid hD0
      clear hI0 hcv hD0 HV HG HC
      go_wp2_with fail
      go_loopw [8] (fun s8 wr => ∃ (k : Nat) (ys : List Value), k ≤ t.length ∧ s8 = .int .i64 k ∧ DrpI w1 g t.length c2 (mixL t gd k) ys wr) (fun s8 _ => t.length - (intOf s8).toNat)
      case atStart => exact ⟨0, _, Nat.zero_le _, rfl, HD0.out⟩
      case round =>
        clear HD0
        obtain ⟨k, ys, hk, rfl, hI⟩ := hrel
        by_cases hlt : k < t.length
        · obtain ⟨z, hzt⟩ := get_of_lt hlt
          have hzG := HZ.out z (mem_of_get hzt)
          obtain ⟨a3, c3, hyk, hoz⟩ := hI.st k z (mix_at hzt)
          have hcz : z.length ≤ c3 := hI.cap _ (List.mem_of_getElem? hyk) a3 z.length c3 rfl
          obtain ⟨b, rfl, hbb, hbg, hbz⟩ := hoz.resolve_left (by rintro rfl; simp at hzG; omega)
          have HMS := Lib.hid (mix_set (g := gd) hzt)
          have x0r := own_cell hI.out hyk
          have HUS := Lib.hid (show z.take gd ++ z.drop (gd + 1) = drpR gd z from rfl)
          have hiz := hbz.at_
          have HE1 := Lib.hid ((ints_head8 hiz gd).below ((Below.refl wr.heap.size wr).drew) (Nat.le_refl _))
          obtain ⟨q, hif, hq⟩ : ∃ q : Nat, (if c3 = gd + 1 then (some ⟨b, 0, none⟩ : Option Addr) else some ⟨b, gd + 1, none⟩) = some ⟨b, q, none⟩ ∧ (gd + 1 < z.length → q = 0 + (gd + 1)) := by
            by_cases hvj : c3 = gd + 1
            · exact ⟨0, by rw [if_pos hvj], fun h => by omega⟩
            · exact ⟨gd + 1, by rw [if_neg hvj], fun _ => by omega⟩
          have HE2 := Lib.hid ((ints_tail8 hiz hq).below ((Below.refl wr.heap.size wr).drew) (Nat.le_refl _))
          have HC1 := Lib.hid HE1.out.cells
          have HC2 := Lib.hid HE2.out.cells
          have HO1 := Lib.hid (show OwnL wr w1.heap.size (some g) (some ⟨b, 0, none⟩) (z.take gd) from .inr ⟨b, rfl, hbb, hbg, by
            obtain ⟨cs, tt, h1, h2⟩ := hbz
            exact ⟨cs, tt, h1, fun j n hj => by
              rw [List.getElem?_take] at hj
              split at hj
              · exact h2 j n hj
              · cases hj⟩⟩)
          have HU1 := Lib.hid (show (z.take gd).length = gd by rw [List.length_take]; omega)
          have HU2 := Lib.hid (show (z.drop (gd + 1)).length = z.length - (gd + 1) by rw [List.length_drop])
          have HGL := Lib.hid (own_lt hI.out)
          have HI := Lib.hid hI
          have hw : IntKind.i64.wrap ((gd : Int) + 1) = (gd : Int) + 1 := IntWalk.i64_in _ (by omega)
          generalize z.take gd = u1 at *
          generalize z.drop (gd + 1) = u2 at *
          generalize hzn : z.length = n at *
          have f1 : (gd : Int) ≤ (c3 : Int) := by omega
          have f2 : (gd : Int) + 1 ≤ (n : Int) := by omega
          have f3 : (n : Int) ≤ (c3 : Int) := by omega
          have f4 : (0 : Int) ≤ (gd : Int) + 1 := by omega
          have f5 : n ≤ 10 := by omega
          have x0w : wr.drew.cell? ⟨g, k, none⟩ = some (.slice (some ⟨b, 0, none⟩) n c3) := x0r
          clear hzt hq hI hzn hzG hyk hoz hbz hiz hbg
          go_wp2_with fail
          refine wp_region_held_drew (S := (fun _ => True)) (by kernel_rfl) ?_ (fun hHeld => ?_)
          · exact trivial
          refine wpAnyH_take (i := 0) (oi := ?oiq1) (v := ?vq1) ?hiq1 (by kernel_rfl) (by kernel_rfl) (by kernel_rfl) ?hqq1 ?hyq1 hHeld ?restq1
          case hiq1 => exact rfl
          case hqq1 => exact fun _ _ _ h => h
          case hyq1 =>
            refine Or.inl ⟨by rfl, ?_⟩
            intro w hSw
            go_simp
            (try with_reducible rfl)
          try simp only [Act.put, List.getElem_toArray, List.getElem_cons_succ, List.getElem_cons_zero, List.setIfInBounds_toArray, List.set_cons_zero, List.set_cons_succ]
          refine wpAnyH_take (i := 1) (oi := ?oiq2) (v := ?vq2) ?hiq2 (by kernel_rfl) (by kernel_rfl) (by kernel_rfl) ?hqq2 ?hyq2 hHeld ?restq2
          case hiq2 => exact rfl
          case hqq2 => exact fun _ _ _ h => h
          case hyq2 =>
            refine Or.inl ⟨by rfl, ?_⟩
            intro w hSw
            go_simp
            (try with_reducible rfl)
          try simp only [Act.put, List.getElem_toArray, List.getElem_cons_succ, List.getElem_cons_zero, List.setIfInBounds_toArray, List.set_cons_zero, List.set_cons_succ]
          refine wpAnyH_take (i := 2) (oi := ?oiq3) (v := ?vq3) ?hiq3 (by kernel_rfl) (by kernel_rfl) (by kernel_rfl) ?hqq3 ?hyq3 hHeld ?restq3
          case hiq3 => exact rfl
          case hqq3 => exact fun _ _ _ h => h
          case hyq3 =>
            refine Or.inl ⟨by rfl, ?_⟩
            intro w hSw
            go_simp
            (try with_reducible rfl)
          try simp only [Act.put, List.getElem_toArray, List.getElem_cons_succ, List.getElem_cons_zero, List.setIfInBounds_toArray, List.set_cons_zero, List.set_cons_succ]
          refine wpAnyH_take (i := 3) (oi := ?oiq4) (v := ?vq4) ?hiq4 (by kernel_rfl) (by kernel_rfl) (by kernel_rfl) ?hqq4 ?hyq4 hHeld ?restq4
          case hiq4 => exact rfl
          case hqq4 => exact fun _ _ _ h => h
          case hyq4 =>
            refine Or.inl ⟨by rfl, ?_⟩
            intro w hSw
            go_simp
            (try with_reducible rfl)
          try simp only [Act.put, List.getElem_toArray, List.getElem_cons_succ, List.getElem_cons_zero, List.setIfInBounds_toArray, List.set_cons_zero, List.set_cons_succ]
          refine wpAnyH_take (i := 4) (oi := ?oiq5) (v := ?vq5) ?hiq5 (by kernel_rfl) (by kernel_rfl) (by kernel_rfl) ?hqq5 ?hyq5 hHeld ?restq5
          case hiq5 => exact rfl
          case hqq5 => exact fun _ _ _ h => h
          case hyq5 =>
            refine Or.inl ⟨by rfl, ?_⟩
            intro w hSw
            go_simp
            (try with_reducible rfl)
          try simp only [Act.put, List.getElem_toArray, List.getElem_cons_succ, List.getElem_cons_zero, List.setIfInBounds_toArray, List.set_cons_zero, List.set_cons_succ]
          refine wpAnyH_take (i := 6) (oi := ?oiq6) (v := ?vq6) ?hiq6 (by kernel_rfl) (by kernel_rfl) (by kernel_rfl) ?hqq6 ?hyq6 hHeld ?restq6
          case hiq6 => exact rfl
          case hqq6 => exact fun _ _ _ h => h
          case hyq6 =>
            refine Or.inl ⟨by rfl, ?_⟩
            intro w hSw
            go_simp
            (try with_reducible rfl)
          try simp only [Act.put, List.getElem_toArray, List.getElem_cons_succ, List.getElem_cons_zero, List.setIfInBounds_toArray, List.set_cons_zero, List.set_cons_succ]
          refine wpAnyH_take (i := 7) (oi := ?oiq7) (v := ?vq7) ?hiq7 (by kernel_rfl) (by kernel_rfl) (by kernel_rfl) ?hqq7 ?hyq7 hHeld ?restq7
          case hiq7 => exact rfl
          case hqq7 => exact fun _ _ _ h => h
          case hyq7 =>
            refine Or.inl ⟨by rfl, ?_⟩
            intro w hSw
            go_simp
            (try with_reducible rfl)
          try simp only [Act.put, List.getElem_toArray, List.getElem_cons_succ, List.getElem_cons_zero, List.setIfInBounds_toArray, List.set_cons_zero, List.set_cons_succ]
          refine wpAnyH_take (i := 9) (oi := ?oiq8) (v := ?vq8) ?hiq8 (by kernel_rfl) (by kernel_rfl) (by kernel_rfl) ?hqq8 ?hyq8 hHeld ?restq8
          case hiq8 => exact rfl
          case hqq8 => exact fun _ _ _ h => h
          case hyq8 =>
            refine Or.inl ⟨by rfl, ?_⟩
            intro w hSw
            go_simp
            (try with_reducible rfl)
          try simp only [Act.put, List.getElem_toArray, List.getElem_cons_succ, List.getElem_cons_zero, List.setIfInBounds_toArray, List.set_cons_zero, List.set_cons_succ]
          refine wpAnyH_take (i := 10) (oi := ?oiq9) (v := ?vq9) ?hiq9 (by kernel_rfl) (by kernel_rfl) (by kernel_rfl) ?hqq9 ?hyq9 hHeld ?restq9
          case hiq9 => exact rfl
          case hqq9 => exact fun _ _ _ h => h
          case hyq9 =>
            refine Or.inl ⟨by rfl, ?_⟩
            intro w hSw
            go_simp
            (try with_reducible rfl)
          try simp only [Act.put, List.getElem_toArray, List.getElem_cons_succ, List.getElem_cons_zero, List.setIfInBounds_toArray, List.set_cons_zero, List.set_cons_succ]
          refine wpAnyH_take (i := 11) (oi := ?oiq10) (v := ?vq10) ?hiq10 (by kernel_rfl) (by kernel_rfl) (by kernel_rfl) ?hqq10 ?hyq10 hHeld ?restq10
          case hiq10 => exact rfl
          case hqq10 => exact fun _ _ _ h => h
          case hyq10 =>
            refine Or.inl ⟨by rfl, ?_⟩
            intro w hSw
            go_simp
            (try with_reducible rfl)
          try simp only [Act.put, List.getElem_toArray, List.getElem_cons_succ, List.getElem_cons_zero, List.setIfInBounds_toArray, List.set_cons_zero, List.set_cons_succ]
          refine wpAnyH_take (i := 13) (oi := ?oiq11) (v := ?vq11) ?hiq11 (by kernel_rfl) (by kernel_rfl) (by kernel_rfl) ?hqq11 ?hyq11 hHeld ?restq11
          case hiq11 => exact rfl
          case hqq11 => exact fun _ _ _ h => h
          case hyq11 =>
            refine Or.inl ⟨by rfl, ?_⟩
            intro w hSw
            go_simp
            (try with_reducible rfl)
          try simp only [Act.put, List.getElem_toArray, List.getElem_cons_succ, List.getElem_cons_zero, List.setIfInBounds_toArray, List.set_cons_zero, List.set_cons_succ]
          refine wpAnyH_take (i := 14) (oi := ?oiq12) (v := (.int .i64 ((gd : Int) + 1))) ?hiq12 (by kernel_rfl) (by kernel_rfl) (by kernel_rfl) ?hqq12 ?hyq12 hHeld ?restq12
          case hiq12 => exact rfl
          case hqq12 => exact fun _ _ _ h => h
          case hyq12 =>
            refine Or.inl ⟨by rfl, ?_⟩
            intro w hSw
            go_simp
            (try with_reducible rfl)
          try simp only [Act.put, List.getElem_toArray, List.getElem_cons_succ, List.getElem_cons_zero, List.setIfInBounds_toArray, List.set_cons_zero, List.set_cons_succ]
          refine wpAnyH_ready (rs := [5, 12]) (by kernel_rfl) (by simp) ?_
          refine AllReadyH.cons (o := ?or23_5) ?hr23_5 ?kr23_5 (AllReadyH.cons (o := ?or23_12) ?hr23_12 ?kr23_12 AllReadyH.nil)
          case hr23_5 => exact rfl
          case hr23_12 => exact rfl
          case kr23_5 =>
            intro Kz hKz
            go_simp
            refine hKz.out _ _ trivial (fun hHeld => ?_)
            clear hKz Kz
            try simp only [Act.put, List.getElem_toArray, List.getElem_cons_succ, List.getElem_cons_zero, List.setIfInBounds_toArray, List.set_cons_zero, List.set_cons_succ]
            refine wpAnyH_take (i := 8) (oi := ?oiq13) (v := ?vq13) ?hiq13 (by kernel_rfl) (by kernel_rfl) (by kernel_rfl) ?hqq13 ?hyq13 hHeld ?restq13
            case hiq13 => exact rfl
            case hqq13 => exact fun _ _ _ h => h
            case hyq13 =>
              refine Or.inl ⟨by rfl, ?_⟩
              intro w hSw
              go_simp
              (try with_reducible rfl)
            try simp only [Act.put, List.getElem_toArray, List.getElem_cons_succ, List.getElem_cons_zero, List.setIfInBounds_toArray, List.set_cons_zero, List.set_cons_succ]
            refine wpAnyH_ready (rs := [12]) (by kernel_rfl) (by simp) ?_
            refine AllReadyH.cons (o := ?or17_12) ?hr17_12 ?kr17_12 AllReadyH.nil
            case hr17_12 => exact rfl
            case kr17_12 =>
              intro Kz hKz
              go_simp
              refine hKz.out _ _ trivial (fun hHeld => ?_)
              clear hKz Kz
              try simp only [Act.put, List.getElem_toArray, List.getElem_cons_succ, List.getElem_cons_zero, List.setIfInBounds_toArray, List.set_cons_zero, List.set_cons_succ]
              refine wpAnyH_take (i := 15) (oi := ?oiq14) (v := ?vq14) ?hiq14 (by kernel_rfl) (by kernel_rfl) (by kernel_rfl) ?hqq14 ?hyq14 hHeld ?restq14
              case hiq14 => exact rfl
              case hqq14 => exact fun _ _ _ h => h
              case hyq14 =>
                refine Or.inl ⟨by rfl, ?_⟩
                intro w hSw
                go_simp
                (try with_reducible rfl)
              try simp only [Act.put, List.getElem_toArray, List.getElem_cons_succ, List.getElem_cons_zero, List.setIfInBounds_toArray, List.set_cons_zero, List.set_cons_succ]
              refine wpAnyH_ready (rs := [16]) (by kernel_rfl) (by simp) ?_
              refine AllReadyH.cons (o := ?oz16a) ?hz16a ?kz16a AllReadyH.nil
              case hz16a => exact rfl
              case kz16a =>
                intro Kz hKz
                rw [if_pos (by rfl)]
                refine wp_append_arg8 (.tmp 38) (.tmp 45) 23 rfl 3 i0 (.int .i64 0) 1 8 Try.underlying23 hii hz0 hz1 hz2 rfl (by decide) b 0 gd gd (u1.map (Value.int .i64)) rfl ?ha1 ?ha2 ⟨b, q, none⟩ (n - (gd + 1)) (c3 - (gd + 1)) (u2.map (Value.int .i64)) rfl ?ha3 ?ha4 ?ha5 rfl ?ha6 ?ha7 ?ha8 ?ha9
                case ha1 => rw [List.length_map, HU1.out]; omega
                case ha2 =>
                  intro j u hu
                  have h9 := HC1.out j u hu
                  rw [Addr.add_mid] at h9
                  exact h9
                case ha3 => rw [List.length_map, HU2.out]; omega
                case ha4 => exact fun j u hu => HC2.out j u hu
                case ha5 => intro u hu; obtain ⟨x, _, rfl⟩ := List.mem_map.1 hu; rfl
                case ha6 => unfold maxLen; omega
                case ha7 => omega
                case ha8 =>
                  intro h0
                  have hn1 : gd + 1 = n := by omega
                  have hu2 : u2 = [] := List.eq_nil_of_length_eq_zero (by rw [HU2.out]; omega)
                  have hset : wr.drew.setCells b (0 + gd * 1) (u2.map (Value.int .i64)) = wr.drew := by rw [hu2]; rfl
                  rw [hset]
                  have hD := HI.out
                  have HOL := Lib.hid (show OwnL wr w1.heap.size (some g) (some ⟨b, 0, none⟩) (drpR gd z) from by rw [← HUS.out, hu2, List.append_nil]; exact HO1.out)
                  have HLR := Lib.hid (show (drpR gd z).length = gd by rw [← HUS.out, List.length_append, HU1.out, hu2]; rfl)
                  have hP := (hD.put (k := k) (c := gd) hlt HOL.out (by rw [HLR.out]; omega)).low ((Below.refl _ _).drew)
                  rw [HLR.out, HMS.out] at hP
                  obtain ⟨v0, m1⟩ : ∃ v, wr.drew.cell? ⟨g, k, none⟩ = some v := ⟨_, x0w⟩
                  have m2 := own_free hD.out k
                  have HP := Lib.hid hP
                  clear hP hD hset hn1 hu2
                  refine hKz.out _ _ trivial (fun hHeld => ?_)
                  clear hKz Kz
                  try simp only [Act.put, List.getElem_toArray, List.getElem_cons_succ, List.getElem_cons_zero, List.setIfInBounds_toArray, List.set_cons_zero, List.set_cons_succ]
                  refine wpAnyH_take (i := 17) (oi := ?oiq15) (v := ?vq15) ?hiq15 (by kernel_rfl) (by kernel_rfl) (by kernel_rfl) ?hqq15 ?hyq15 hHeld ?restq15
                  case hiq15 => exact rfl
                  case hqq15 => exact fun _ _ _ h => h
                  case hyq15 =>
                    refine Or.inl ⟨by rfl, ?_⟩
                    intro w hSw
                    go_simp
                    (try with_reducible rfl)
                  try simp only [Act.put, List.getElem_toArray, List.getElem_cons_succ, List.getElem_cons_zero, List.setIfInBounds_toArray, List.set_cons_zero, List.set_cons_succ]
                  refine wpAnyH_ready (rs := [18]) (by kernel_rfl) (by simp) ?_
                  refine AllReadyH.cons (o := ?oz18ra) ?hz18ra ?kz18ra AllReadyH.nil
                  case hz18ra => exact rfl
                  case kz18ra =>
                    intro Kz hKz
                    go_simp
                    refine hKz.out _ _ trivial (fun hHeld => ?_)
                    clear hKz Kz
                    try simp only [Act.put, List.getElem_toArray, List.getElem_cons_succ, List.getElem_cons_zero, List.setIfInBounds_toArray, List.set_cons_zero, List.set_cons_succ]
                    refine wpAnyH_done (by kernel_rfl) ?_ _
                    clear hHeld
                    go_wp2_with fail
                    go_roundw
                    case rel => exact ⟨k + 1, _, by omega, by go_num, HP.out⟩
                    case measure => simp [intOf]; omega
                case ha9 =>
                  intro h0 v3 w3 hown3 hgrow3
                  have hB3 : Below wr.heap.size wr w3 := ((Below.refl _ _).drew).grown hgrow3 (by simp) (by rintro k hk; cases hk)
                  have hD := HI.out.low hB3
                  have hown4 : w3.ownsRow wr.heap.size 3 1 v3 (gd + (n - (gd + 1))) ((drpR gd z).map (Value.int .i64)) := by rw [← HUS.out, List.map_append]; exact hown3
                  obtain ⟨a4, c4, rfl⟩ := own_slice hown4
                  have hcap4 := own_capA hown4
                  have HOL := Lib.hid (((ownL_off (M := g) (ownL_of hown4) HGL.out)).wide (base' := w1.heap.size) HI.out.below.size)
                  have HLR := Lib.hid (show (drpR gd z).length = gd + (n - (gd + 1)) by rw [← HUS.out, List.length_append, HU1.out, HU2.out])
                  have hP := hD.put (k := k) (c := c4) hlt HOL.out (by rw [HLR.out]; exact hcap4)
                  rw [HLR.out, HMS.out] at hP
                  have m1 : w3.cell? ⟨g, k, none⟩ = some (.slice (some ⟨b, 0, none⟩) n c3) := (hB3.cell (p := ⟨g, k, none⟩) HGL.out).trans x0r
                  have m2 := own_free hD.out k
                  have HP := Lib.hid hP
                  clear hP hD hown4 hown3 hgrow3 hcap4 hB3
                  refine hKz.out _ _ trivial (fun hHeld => ?_)
                  clear hKz Kz
                  try simp only [Act.put, List.getElem_toArray, List.getElem_cons_succ, List.getElem_cons_zero, List.setIfInBounds_toArray, List.set_cons_zero, List.set_cons_succ]
                  refine wpAnyH_take (i := 17) (oi := ?oiq16) (v := ?vq16) ?hiq16 (by kernel_rfl) (by kernel_rfl) (by kernel_rfl) ?hqq16 ?hyq16 hHeld ?restq16
                  case hiq16 => exact rfl
                  case hqq16 => exact fun _ _ _ h => h
                  case hyq16 =>
                    refine Or.inl ⟨by rfl, ?_⟩
                    intro w hSw
                    go_simp
                    (try with_reducible rfl)
                  try simp only [Act.put, List.getElem_toArray, List.getElem_cons_succ, List.getElem_cons_zero, List.setIfInBounds_toArray, List.set_cons_zero, List.set_cons_succ]
                  refine wpAnyH_ready (rs := [18]) (by kernel_rfl) (by simp) ?_
                  refine AllReadyH.cons (o := ?oz18ga) ?hz18ga ?kz18ga AllReadyH.nil
                  case hz18ga => exact rfl
                  case kz18ga =>
                    intro Kz hKz
                    go_simp
                    refine hKz.out _ _ trivial (fun hHeld => ?_)
                    clear hKz Kz
                    try simp only [Act.put, List.getElem_toArray, List.getElem_cons_succ, List.getElem_cons_zero, List.setIfInBounds_toArray, List.set_cons_zero, List.set_cons_succ]
                    refine wpAnyH_done (by kernel_rfl) ?_ _
                    clear hHeld
                    go_wp2_with fail
                    go_roundw
                    case rel => exact ⟨k + 1, _, by omega, by go_num, HP.out⟩
                    case measure => simp [intOf]; omega
          case kr23_12 =>
            intro Kz hKz
            go_simp
            refine hKz.out _ _ trivial (fun hHeld => ?_)
            clear hKz Kz
            try simp only [Act.put, List.getElem_toArray, List.getElem_cons_succ, List.getElem_cons_zero, List.setIfInBounds_toArray, List.set_cons_zero, List.set_cons_succ]
            refine wpAnyH_take (i := 15) (oi := ?oiq18) (v := ?vq18) ?hiq18 (by kernel_rfl) (by kernel_rfl) (by kernel_rfl) ?hqq18 ?hyq18 hHeld ?restq18
            case hiq18 => exact rfl
            case hqq18 => exact fun _ _ _ h => h
            case hyq18 =>
              refine Or.inl ⟨by rfl, ?_⟩
              intro w hSw
              go_simp
              (try with_reducible rfl)
            try simp only [Act.put, List.getElem_toArray, List.getElem_cons_succ, List.getElem_cons_zero, List.setIfInBounds_toArray, List.set_cons_zero, List.set_cons_succ]
            refine wpAnyH_ready (rs := [5]) (by kernel_rfl) (by simp) ?_
            refine AllReadyH.cons (o := ?or22_5) ?hr22_5 ?kr22_5 AllReadyH.nil
            case hr22_5 => exact rfl
            case kr22_5 =>
              intro Kz hKz
              go_simp
              refine hKz.out _ _ trivial (fun hHeld => ?_)
              clear hKz Kz
              try simp only [Act.put, List.getElem_toArray, List.getElem_cons_succ, List.getElem_cons_zero, List.setIfInBounds_toArray, List.set_cons_zero, List.set_cons_succ]
              refine wpAnyH_take (i := 8) (oi := ?oiq19) (v := ?vq19) ?hiq19 (by kernel_rfl) (by kernel_rfl) (by kernel_rfl) ?hqq19 ?hyq19 hHeld ?restq19
              case hiq19 => exact rfl
              case hqq19 => exact fun _ _ _ h => h
              case hyq19 =>
                refine Or.inl ⟨by rfl, ?_⟩
                intro w hSw
                go_simp
                (try with_reducible rfl)
              try simp only [Act.put, List.getElem_toArray, List.getElem_cons_succ, List.getElem_cons_zero, List.setIfInBounds_toArray, List.set_cons_zero, List.set_cons_succ]
              refine wpAnyH_ready (rs := [16]) (by kernel_rfl) (by simp) ?_
              refine AllReadyH.cons (o := ?oz16b) ?hz16b ?kz16b AllReadyH.nil
              case hz16b => exact rfl
              case kz16b =>
                intro Kz hKz
                rw [if_pos (by rfl)]
                refine wp_append_arg8 (.tmp 38) (.tmp 45) 23 rfl 3 i0 (.int .i64 0) 1 8 Try.underlying23 hii hz0 hz1 hz2 rfl (by decide) b 0 gd gd (u1.map (Value.int .i64)) rfl ?hb1 ?hb2 ⟨b, q, none⟩ (n - (gd + 1)) (c3 - (gd + 1)) (u2.map (Value.int .i64)) rfl ?hb3 ?hb4 ?hb5 rfl ?hb6 ?hb7 ?hb8 ?hb9
                case hb1 => rw [List.length_map, HU1.out]; omega
                case hb2 =>
                  intro j u hu
                  have h9 := HC1.out j u hu
                  rw [Addr.add_mid] at h9
                  exact h9
                case hb3 => rw [List.length_map, HU2.out]; omega
                case hb4 => exact fun j u hu => HC2.out j u hu
                case hb5 => intro u hu; obtain ⟨x, _, rfl⟩ := List.mem_map.1 hu; rfl
                case hb6 => unfold maxLen; omega
                case hb7 => omega
                case hb8 =>
                  intro h0
                  have hn1 : gd + 1 = n := by omega
                  have hu2 : u2 = [] := List.eq_nil_of_length_eq_zero (by rw [HU2.out]; omega)
                  have hset : wr.drew.setCells b (0 + gd * 1) (u2.map (Value.int .i64)) = wr.drew := by rw [hu2]; rfl
                  rw [hset]
                  have hD := HI.out
                  have HOL := Lib.hid (show OwnL wr w1.heap.size (some g) (some ⟨b, 0, none⟩) (drpR gd z) from by rw [← HUS.out, hu2, List.append_nil]; exact HO1.out)
                  have HLR := Lib.hid (show (drpR gd z).length = gd by rw [← HUS.out, List.length_append, HU1.out, hu2]; rfl)
                  have hP := (hD.put (k := k) (c := gd) hlt HOL.out (by rw [HLR.out]; omega)).low ((Below.refl _ _).drew)
                  rw [HLR.out, HMS.out] at hP
                  obtain ⟨v0, m1⟩ : ∃ v, wr.drew.cell? ⟨g, k, none⟩ = some v := ⟨_, x0w⟩
                  have m2 := own_free hD.out k
                  have HP := Lib.hid hP
                  clear hP hD hset hn1 hu2
                  refine hKz.out _ _ trivial (fun hHeld => ?_)
                  clear hKz Kz
                  try simp only [Act.put, List.getElem_toArray, List.getElem_cons_succ, List.getElem_cons_zero, List.setIfInBounds_toArray, List.set_cons_zero, List.set_cons_succ]
                  refine wpAnyH_take (i := 17) (oi := ?oiq20) (v := ?vq20) ?hiq20 (by kernel_rfl) (by kernel_rfl) (by kernel_rfl) ?hqq20 ?hyq20 hHeld ?restq20
                  case hiq20 => exact rfl
                  case hqq20 => exact fun _ _ _ h => h
                  case hyq20 =>
                    refine Or.inl ⟨by rfl, ?_⟩
                    intro w hSw
                    go_simp
                    (try with_reducible rfl)
                  try simp only [Act.put, List.getElem_toArray, List.getElem_cons_succ, List.getElem_cons_zero, List.setIfInBounds_toArray, List.set_cons_zero, List.set_cons_succ]
                  refine wpAnyH_ready (rs := [18]) (by kernel_rfl) (by simp) ?_
                  refine AllReadyH.cons (o := ?oz18rb) ?hz18rb ?kz18rb AllReadyH.nil
                  case hz18rb => exact rfl
                  case kz18rb =>
                    intro Kz hKz
                    go_simp
                    refine hKz.out _ _ trivial (fun hHeld => ?_)
                    clear hKz Kz
                    try simp only [Act.put, List.getElem_toArray, List.getElem_cons_succ, List.getElem_cons_zero, List.setIfInBounds_toArray, List.set_cons_zero, List.set_cons_succ]
                    refine wpAnyH_done (by kernel_rfl) ?_ _
                    clear hHeld
                    go_wp2_with fail
                    go_roundw
                    case rel => exact ⟨k + 1, _, by omega, by go_num, HP.out⟩
                    case measure => simp [intOf]; omega
                case hb9 =>
                  intro h0 v3 w3 hown3 hgrow3
                  have hB3 : Below wr.heap.size wr w3 := ((Below.refl _ _).drew).grown hgrow3 (by simp) (by rintro k hk; cases hk)
                  have hD := HI.out.low hB3
                  have hown4 : w3.ownsRow wr.heap.size 3 1 v3 (gd + (n - (gd + 1))) ((drpR gd z).map (Value.int .i64)) := by rw [← HUS.out, List.map_append]; exact hown3
                  obtain ⟨a4, c4, rfl⟩ := own_slice hown4
                  have hcap4 := own_capA hown4
                  have HOL := Lib.hid (((ownL_off (M := g) (ownL_of hown4) HGL.out)).wide (base' := w1.heap.size) HI.out.below.size)
                  have HLR := Lib.hid (show (drpR gd z).length = gd + (n - (gd + 1)) by rw [← HUS.out, List.length_append, HU1.out, HU2.out])
                  have hP := hD.put (k := k) (c := c4) hlt HOL.out (by rw [HLR.out]; exact hcap4)
                  rw [HLR.out, HMS.out] at hP
                  have m1 : w3.cell? ⟨g, k, none⟩ = some (.slice (some ⟨b, 0, none⟩) n c3) := (hB3.cell (p := ⟨g, k, none⟩) HGL.out).trans x0r
                  have m2 := own_free hD.out k
                  have HP := Lib.hid hP
                  clear hP hD hown4 hown3 hgrow3 hcap4 hB3
                  refine hKz.out _ _ trivial (fun hHeld => ?_)
                  clear hKz Kz
                  try simp only [Act.put, List.getElem_toArray, List.getElem_cons_succ, List.getElem_cons_zero, List.setIfInBounds_toArray, List.set_cons_zero, List.set_cons_succ]
                  refine wpAnyH_take (i := 17) (oi := ?oiq21) (v := ?vq21) ?hiq21 (by kernel_rfl) (by kernel_rfl) (by kernel_rfl) ?hqq21 ?hyq21 hHeld ?restq21
                  case hiq21 => exact rfl
                  case hqq21 => exact fun _ _ _ h => h
                  case hyq21 =>
                    refine Or.inl ⟨by rfl, ?_⟩
                    intro w hSw
                    go_simp
                    (try with_reducible rfl)
                  try simp only [Act.put, List.getElem_toArray, List.getElem_cons_succ, List.getElem_cons_zero, List.setIfInBounds_toArray, List.set_cons_zero, List.set_cons_succ]
                  refine wpAnyH_ready (rs := [18]) (by kernel_rfl) (by simp) ?_
                  refine AllReadyH.cons (o := ?oz18gb) ?hz18gb ?kz18gb AllReadyH.nil
                  case hz18gb => exact rfl
                  case kz18gb =>
                    intro Kz hKz
                    go_simp
                    refine hKz.out _ _ trivial (fun hHeld => ?_)
                    clear hKz Kz
                    try simp only [Act.put, List.getElem_toArray, List.getElem_cons_succ, List.getElem_cons_zero, List.setIfInBounds_toArray, List.set_cons_zero, List.set_cons_succ]
                    refine wpAnyH_done (by kernel_rfl) ?_ _
                    clear hHeld
                    go_wp2_with fail
                    go_roundw
                    case rel => exact ⟨k + 1, _, by omega, by go_num, HP.out⟩
                    case measure => simp [intOf]; omega
        · obtain rfl : k = t.length := by omega
          rw [mix_all] at hI
          have hR := rows_own8 hI.out (drpL_len t gd) (RowC.none_of8 hI.st)
          obtain ⟨a9, c9, e9, hR9⟩ := hR
          injection e9 with e1 e2 e3
          subst e1 e3
          have HR9 := Lib.hid hR9
          have HBW := Lib.hid (HB.out.trans (hI.below.mono HB.out.size))
          clear hI hR9
          go_wp2_with fail
          go_ret2
          exact ⟨some ⟨g, 0, none⟩, c2, by rw [drpL_len]; rfl, HR9.out, HBW.out⟩
    · have hE : drpE t r = 4 := by unfold drpE; rw [if_pos hv, if_neg hr]
      rw [hE, if_neg (by decide)]
      have hd : decide (r < 0) = true ∨ (decide (r < 0) = false ∧ decide ((goalsN t : Int) ≤ r) = true) := by
        by_cases h : r < 0
        · exact .inl (decide_eq_true h)
        · exact .inr ⟨decide_eq_false h, decide_eq_true (by omega)⟩
      have HT := Lib.hid ht
      generalize goalsN t = G at *
      clear hv ht hl hm hr hE hrz
      rcases hd with d1 | ⟨d1, d2⟩
      · go_enter Try.func54, Try.ntmps54
        go_wp2_with fail
        refine HV.out.mono ?_
        rintro e w1 ⟨rfl, hB⟩
        have HB := Lib.hid hB
        clear hB
        go_wp2_with fail
        go_ret2
        exact ⟨none, 0, rfl, .inl rfl, HB.out⟩
      · go_enter Try.func54, Try.ntmps54
        go_wp2_with fail
        refine HV.out.mono ?_
        rintro e w1 ⟨rfl, hB⟩
        have HB := Lib.hid hB
        clear hB
        go_wp2_with fail
        refine (HG.out _ (HT.out.at_.below HB.out (Nat.le_refl _))).mono ?_
        rintro e w' ⟨rfl, rfl⟩
        go_wp2_with fail
        go_ret2
        exact ⟨none, 0, rfl, .inl rfl, HB.out⟩
  · have hE : drpE t r = vsu t := by unfold drpE; rw [if_neg hv]
    rw [hE, if_neg hv]
    have hne : (vsu t != 0) = true := by simpa using hv
    clear hv ht hm hE
    go_enter Try.func54, Try.ntmps54
    go_wp2_with fail
    refine HV.out.mono ?_
    rintro e w1 ⟨rfl, hB⟩
    have HB := Lib.hid hB
    clear hB
    go_wp2_with fail
    go_ret2
    exact ⟨none, 0, rfl, .inl rfl, HB.out⟩

end Go.Proofs.Ytmigkbimdjiigaa
