/- Several texts in one. -/
import Derived.Test.YtikblaebfpdngaaPtW
import Derived.BigQuiet
import Derived.Deep.QuietTactic
import Derived.StillTailTactics
import Derived.Test.YtikblaebfpdngaaPtY
import Derived.Test.YtikblaebfpdngaaRefB
/- Validate of the document's side (patches): contract. -/
set_option linter.unusedVariables false
set_option linter.unusedSimpArgs false
namespace Tinker
theorem set_snoc {l : List Int} {x : Int} (h : isSetB l = true) (hx : ∀ y, l[l.length - 1]? = some y → y < x) : isSetB (l ++ [x]) = true := by
  rw [isSetB_iff] at h ⊢
  intro i hi
  rw [List.length_append, List.length_singleton] at hi
  by_cases h1 : i + 1 < l.length
  · have := h i h1
    rw [List.getD_eq_getElem?_getD, List.getD_eq_getElem?_getD] at this ⊢
    rwa [List.getElem?_append_left (by omega), List.getElem?_append_left (by omega)]
  · have h2 : i + 1 = l.length := by omega
    obtain ⟨y, hy⟩ := get_of_lt (show i < l.length by omega)
    have := hx y (by rw [show l.length - 1 = i by omega]; exact hy)
    rw [List.getD_eq_getElem?_getD, List.getD_eq_getElem?_getD, List.getElem?_append_left (by omega), hy, List.getElem?_append_right (by omega), h2]
    simpa using this
end Tinker
namespace Go.Proofs.Ytikblaebfpdngaa
open Go.RowKit Tinker

/-- The first k edits are as they must be. -/
def vxTo (xs : List E) (k : Nat) : Prop := isSetB (pl (xs.take k)) = true ∧ (xs.take k).all (fun e => btw e.at_ 0 7 && isLn e.ln) = true
theorem vxTo_step {xs : List E} {k : Nat} {e : E} (h : vxTo xs k) (he : xs[k]? = some e) (h1 : (btw e.at_ 0 7 && isLn e.ln) = true) (h2 : ∀ q e', k = q + 1 → xs[q]? = some e' → e'.at_ < e.at_) : vxTo xs (k + 1) := by
  have hk : k < xs.length := (List.getElem?_eq_some_iff.1 he).1
  refine ⟨?_, all_snoc h.2 he h1⟩
  rw [List.take_add_one, he]
  show isSetB (pl (xs.take k ++ [e])) = true
  have e1 : pl (xs.take k ++ [e]) = pl (xs.take k) ++ [e.at_] := by unfold pl; rw [List.map_append]; rfl
  rw [e1]
  refine set_snoc h.1 fun y hy => ?_
  rw [plLen, List.length_take, Nat.min_eq_left (by omega)] at hy
  unfold pl at hy
  rw [List.getElem?_map, Option.map_eq_some_iff] at hy
  obtain ⟨e', he', rfl⟩ := hy
  cases k with
  | zero => simp at he'
  | succ q =>
    refine h2 q e' rfl ?_
    rw [List.getElem?_take] at he'
    split at he'
    · simpa using he'
    · cases he'
theorem vx_row {xs : List E} {q : Nat} {e e' : E} (h4 : xs.length ≤ 4) (he' : xs[q]? = some e') (he : xs[q + 1]? = some e) (h : e.at_ ≤ e'.at_) : vx xs = 1 := by
  refine vx_set h4 (isSetB_no (k := q) (x := e'.at_) (y := e.at_) ?_ ?_ h)
  · unfold pl; rw [List.getElem?_map, he']; rfl
  · unfold pl; rw [List.getElem?_map, he]; rfl
theorem vx_el {xs : List E} {k : Nat} {e : E} (h4 : xs.length ≤ 4) (he : xs[k]? = some e) (h : (btw e.at_ 0 7 && isLn e.ln) = false) : vx xs = 1 :=
  vx_bad h4 (by rw [List.all_eq_false]; exact ⟨e, mem_of_get he, by rw [h]; simp⟩)

set_option maxRecDepth 100000 in
set_option maxHeartbeats 4000000 in
theorem rVal4_any (a : Option Addr) (ca : Nat) (xs : List E) (w : World) (hx : EditsAt w a xs) (hm : xs.length ≤ 1000) :
    Calls Try.prog 45 #[.slice a xs.length ca] w fun e w' => e = .returned (.int .i64 (vx xs)) ∧ Below w.heap.size w w' := by
  by_cases h4 : xs.length ≤ 4
  · go_enter Try.func45, Try.ntmps45
    go_wp2_with fail
    go_loopw [3] (fun s3 wr => ∃ k : Nat, k ≤ xs.length ∧ s3 = .int .i64 k ∧ vxTo xs k ∧ Below w.heap.size w wr) (fun s3 _ => xs.length - (intOf s3).toNat)
    case atStart => exact ⟨0, Nat.zero_le _, rfl, ⟨rfl, by simp⟩, Below.refl _ _⟩
    case round =>
      obtain ⟨k, hk, rfl, hV, hB⟩ := hrel
      have HV := Lib.hid hV
      have HB := Lib.hid hB
      clear hV hB
      by_cases hlt : k < xs.length
      · obtain ⟨b, off, e, rfl, hlb, he, c0, c1, c2, c3, c4⟩ := (hx.below HB.out (Nat.le_refl _)).at_ hlt
        have HE := Lib.hid he
        have HVL := Lib.hid (fun w => rValidateLine_any e.ln w)
        unfold lv vl at HVL
        by_cases g0 : e.at_ < 0
        · have HR := Lib.hid (vx_el h4 he (by rw [show btw e.at_ 0 7 = false by unfold btw; simp; omega]; rfl))
          clear he hx
          go_upto_region 6 with fail
          refine wp_region_held_drew (S := (fun w' => w'.cell? ⟨b, off + k * 5, none⟩ = some (.int .i64 e.at_) ∧ w'.cell? ⟨b, off + k * 5 + 1, none⟩ = some (.int .i64 e.ln.op) ∧ w'.cell? ⟨b, off + k * 5 + 2, none⟩ = some (.int .i64 e.ln.to) ∧ w'.cell? ⟨b, off + k * 5 + 3, none⟩ = some (.int .i64 e.ln.a) ∧ w'.cell? ⟨b, off + k * 5 + 4, none⟩ = some (.int .i64 e.ln.b))) (by kernel_rfl) ?_ (fun hHeld => ?_)
          · exact ⟨c0, c1, c2, c3, c4⟩
          refine wpAnyH_take (i := 0) (oi := ?oia00) (v := ?va00) ?hia00 (by kernel_rfl) (by kernel_rfl) (by kernel_rfl) ?hqa00 ?hya00 hHeld ?resta00
          case hia00 => exact rfl
          case hqa00 => exact fun _ _ _ h => h
          case hya00 =>
            refine Or.inl ⟨by rfl, ?_⟩
            intro w hSw
            (try dsimp only at hSw)
            go_simp
            (try with_reducible rfl)
          try simp only [Act.put, List.getElem_toArray, List.getElem_cons_succ, List.getElem_cons_zero, List.setIfInBounds_toArray, List.set_cons_zero, List.set_cons_succ]
          refine wpAnyH_take (i := 1) (oi := ?oia01) (v := ?va01) ?hia01 (by kernel_rfl) (by kernel_rfl) (by kernel_rfl) ?hqa01 ?hya01 hHeld ?resta01
          case hia01 => exact rfl
          case hqa01 => exact fun _ _ _ h => h
          case hya01 =>
            refine Or.inl ⟨by rfl, ?_⟩
            intro w hSw
            (try dsimp only at hSw)
            go_simp
            (try with_reducible rfl)
          try simp only [Act.put, List.getElem_toArray, List.getElem_cons_succ, List.getElem_cons_zero, List.setIfInBounds_toArray, List.set_cons_zero, List.set_cons_succ]
          refine wpAnyH_take (i := 2) (oi := ?oia02) (v := ?va02) ?hia02 (by kernel_rfl) (by kernel_rfl) (by kernel_rfl) ?hqa02 ?hya02 hHeld ?resta02
          case hia02 => exact rfl
          case hqa02 => exact fun _ _ _ h => h
          case hya02 =>
            refine Or.inl ⟨by rfl, ?_⟩
            intro w hSw
            (try dsimp only at hSw)
            go_simp
            (try with_reducible rfl)
          try simp only [Act.put, List.getElem_toArray, List.getElem_cons_succ, List.getElem_cons_zero, List.setIfInBounds_toArray, List.set_cons_zero, List.set_cons_succ]
          refine wpAnyH_take (i := 3) (oi := ?oia03) (v := ?va03) ?hia03 (by kernel_rfl) (by kernel_rfl) (by kernel_rfl) ?hqa03 ?hya03 hHeld ?resta03
          case hia03 => exact rfl
          case hqa03 => exact fun _ _ _ h => h
          case hya03 =>
            refine Or.inl ⟨by rfl, ?_⟩
            intro w hSw
            (try dsimp only at hSw)
            go_simp
            (try with_reducible rfl)
          try simp only [Act.put, List.getElem_toArray, List.getElem_cons_succ, List.getElem_cons_zero, List.setIfInBounds_toArray, List.set_cons_zero, List.set_cons_succ]
          refine wpAnyH_take (i := 4) (oi := ?oia04) (v := ?va04) ?hia04 (by kernel_rfl) (by kernel_rfl) (by kernel_rfl) ?hqa04 ?hya04 hHeld ?resta04
          case hia04 => exact rfl
          case hqa04 => exact fun _ _ _ h => h
          case hya04 =>
            refine Or.inl ⟨by rfl, ?_⟩
            intro w hSw
            (try dsimp only at hSw)
            go_simp
            (try with_reducible rfl)
          try simp only [Act.put, List.getElem_toArray, List.getElem_cons_succ, List.getElem_cons_zero, List.setIfInBounds_toArray, List.set_cons_zero, List.set_cons_succ]
          refine wpAnyH_take (i := 5) (oi := ?oia05) (v := ?va05) ?hia05 (by kernel_rfl) (by kernel_rfl) (by kernel_rfl) ?hqa05 ?hya05 hHeld ?resta05
          case hia05 => exact rfl
          case hqa05 => exact fun _ _ _ h => h
          case hya05 =>
            refine Or.inl ⟨by rfl, ?_⟩
            intro w hSw
            (try dsimp only at hSw)
            go_simp
            (try with_reducible rfl)
          try simp only [Act.put, List.getElem_toArray, List.getElem_cons_succ, List.getElem_cons_zero, List.setIfInBounds_toArray, List.set_cons_zero, List.set_cons_succ]
          refine wpAnyH_take (i := 6) (oi := ?oia06) (v := ?va06) ?hia06 (by kernel_rfl) (by kernel_rfl) (by kernel_rfl) ?hqa06 ?hya06 hHeld ?resta06
          case hia06 => exact rfl
          case hqa06 => exact fun _ _ _ h => h
          case hya06 =>
            refine Or.inl ⟨by rfl, ?_⟩
            intro w hSw
            (try dsimp only at hSw)
            go_simp
            (try with_reducible rfl)
          try simp only [Act.put, List.getElem_toArray, List.getElem_cons_succ, List.getElem_cons_zero, List.setIfInBounds_toArray, List.set_cons_zero, List.set_cons_succ]
          refine wpAnyH_take (i := 7) (oi := ?oia07) (v := undef) ?hia07 (by kernel_rfl) (by kernel_rfl) (by kernel_rfl) ?hqa07 ?hya07 hHeld ?resta07
          case hia07 => exact rfl
          case hqa07 => exact fun _ _ _ h => h
          case hya07 => exact Or.inr ⟨by kernel_rfl, rfl⟩
          try simp only [Act.put, List.getElem_toArray, List.getElem_cons_succ, List.getElem_cons_zero, List.setIfInBounds_toArray, List.set_cons_zero, List.set_cons_succ]
          refine wpAnyH_take (i := 8) (oi := ?oia08) (v := undef) ?hia08 (by kernel_rfl) (by kernel_rfl) (by kernel_rfl) ?hqa08 ?hya08 hHeld ?resta08
          case hia08 => exact rfl
          case hqa08 => exact fun _ _ _ h => h
          case hya08 => exact Or.inr ⟨by kernel_rfl, rfl⟩
          try simp only [Act.put, List.getElem_toArray, List.getElem_cons_succ, List.getElem_cons_zero, List.setIfInBounds_toArray, List.set_cons_zero, List.set_cons_succ]
          refine wpAnyH_take (i := 9) (oi := ?oia09) (v := undef) ?hia09 (by kernel_rfl) (by kernel_rfl) (by kernel_rfl) ?hqa09 ?hya09 hHeld ?resta09
          case hia09 => exact rfl
          case hqa09 => exact fun _ _ _ h => h
          case hya09 => exact Or.inr ⟨by kernel_rfl, rfl⟩
          try simp only [Act.put, List.getElem_toArray, List.getElem_cons_succ, List.getElem_cons_zero, List.setIfInBounds_toArray, List.set_cons_zero, List.set_cons_succ]
          refine wpAnyH_take (i := 10) (oi := ?oia10) (v := undef) ?hia10 (by kernel_rfl) (by kernel_rfl) (by kernel_rfl) ?hqa10 ?hya10 hHeld ?resta10
          case hia10 => exact rfl
          case hqa10 => exact fun _ _ _ h => h
          case hya10 => exact Or.inr ⟨by kernel_rfl, rfl⟩
          try simp only [Act.put, List.getElem_toArray, List.getElem_cons_succ, List.getElem_cons_zero, List.setIfInBounds_toArray, List.set_cons_zero, List.set_cons_succ]
          refine wpAnyH_take (i := 11) (oi := ?oia11) (v := undef) ?hia11 (by kernel_rfl) (by kernel_rfl) (by kernel_rfl) ?hqa11 ?hya11 hHeld ?resta11
          case hia11 => exact rfl
          case hqa11 => exact fun _ _ _ h => h
          case hya11 => exact Or.inr ⟨by kernel_rfl, rfl⟩
          try simp only [Act.put, List.getElem_toArray, List.getElem_cons_succ, List.getElem_cons_zero, List.setIfInBounds_toArray, List.set_cons_zero, List.set_cons_succ]
          refine wpAnyH_take (i := 12) (oi := ?oia12) (v := undef) ?hia12 (by kernel_rfl) (by kernel_rfl) (by kernel_rfl) ?hqa12 ?hya12 hHeld ?resta12
          case hia12 => exact rfl
          case hqa12 => exact fun _ _ _ h => h
          case hya12 => exact Or.inr ⟨by kernel_rfl, rfl⟩
          try simp only [Act.put, List.getElem_toArray, List.getElem_cons_succ, List.getElem_cons_zero, List.setIfInBounds_toArray, List.set_cons_zero, List.set_cons_succ]
          refine wpAnyH_take (i := 13) (oi := ?oia13) (v := ?va13) ?hia13 (by kernel_rfl) (by kernel_rfl) (by kernel_rfl) ?hqa13 ?hya13 hHeld ?resta13
          case hia13 => exact rfl
          case hqa13 => exact fun _ _ _ h => h
          case hya13 =>
            refine Or.inl ⟨by rfl, ?_⟩
            intro w hSw
            (try dsimp only at hSw)
            go_simp
            (try with_reducible rfl)
          try simp only [Act.put, List.getElem_toArray, List.getElem_cons_succ, List.getElem_cons_zero, List.setIfInBounds_toArray, List.set_cons_zero, List.set_cons_succ]
          refine wpAnyH_take (i := 14) (oi := ?oia14) (v := ?va14) ?hia14 (by kernel_rfl) (by kernel_rfl) (by kernel_rfl) ?hqa14 ?hya14 hHeld ?resta14
          case hia14 => exact rfl
          case hqa14 => exact fun _ _ _ h => h
          case hya14 =>
            refine Or.inl ⟨by rfl, ?_⟩
            intro w hSw
            (try dsimp only at hSw)
            go_simp
            (try with_reducible rfl)
          try simp only [Act.put, List.getElem_toArray, List.getElem_cons_succ, List.getElem_cons_zero, List.setIfInBounds_toArray, List.set_cons_zero, List.set_cons_succ]
          refine wpAnyH_take (i := 15) (oi := ?oia15) (v := undef) ?hia15 (by kernel_rfl) (by kernel_rfl) (by kernel_rfl) ?hqa15 ?hya15 hHeld ?resta15
          case hia15 => exact rfl
          case hqa15 => exact fun _ _ _ h => h
          case hya15 => exact Or.inr ⟨by kernel_rfl, rfl⟩
          try simp only [Act.put, List.getElem_toArray, List.getElem_cons_succ, List.getElem_cons_zero, List.setIfInBounds_toArray, List.set_cons_zero, List.set_cons_succ]
          refine wpAnyH_take (i := 16) (oi := ?oia16) (v := undef) ?hia16 (by kernel_rfl) (by kernel_rfl) (by kernel_rfl) ?hqa16 ?hya16 hHeld ?resta16
          case hia16 => exact rfl
          case hqa16 => exact fun _ _ _ h => h
          case hya16 => exact Or.inr ⟨by kernel_rfl, rfl⟩
          try simp only [Act.put, List.getElem_toArray, List.getElem_cons_succ, List.getElem_cons_zero, List.setIfInBounds_toArray, List.set_cons_zero, List.set_cons_succ]
          refine wpAnyH_take (i := 17) (oi := ?oia17) (v := undef) ?hia17 (by kernel_rfl) (by kernel_rfl) (by kernel_rfl) ?hqa17 ?hya17 hHeld ?resta17
          case hia17 => exact rfl
          case hqa17 => exact fun _ _ _ h => h
          case hya17 => exact Or.inr ⟨by kernel_rfl, rfl⟩
          try simp only [Act.put, List.getElem_toArray, List.getElem_cons_succ, List.getElem_cons_zero, List.setIfInBounds_toArray, List.set_cons_zero, List.set_cons_succ]
          refine wpAnyH_take (i := 18) (oi := ?oia18) (v := undef) ?hia18 (by kernel_rfl) (by kernel_rfl) (by kernel_rfl) ?hqa18 ?hya18 hHeld ?resta18
          case hia18 => exact rfl
          case hqa18 => exact fun _ _ _ h => h
          case hya18 => exact Or.inr ⟨by kernel_rfl, rfl⟩
          try simp only [Act.put, List.getElem_toArray, List.getElem_cons_succ, List.getElem_cons_zero, List.setIfInBounds_toArray, List.set_cons_zero, List.set_cons_succ]
          refine wpAnyH_take (i := 19) (oi := ?oia19) (v := undef) ?hia19 (by kernel_rfl) (by kernel_rfl) (by kernel_rfl) ?hqa19 ?hya19 hHeld ?resta19
          case hia19 => exact rfl
          case hqa19 => exact fun _ _ _ h => h
          case hya19 => exact Or.inr ⟨by kernel_rfl, rfl⟩
          try simp only [Act.put, List.getElem_toArray, List.getElem_cons_succ, List.getElem_cons_zero, List.setIfInBounds_toArray, List.set_cons_zero, List.set_cons_succ]
          refine wpAnyH_take (i := 20) (oi := ?oia20) (v := undef) ?hia20 (by kernel_rfl) (by kernel_rfl) (by kernel_rfl) ?hqa20 ?hya20 hHeld ?resta20
          case hia20 => exact rfl
          case hqa20 => exact fun _ _ _ h => h
          case hya20 => exact Or.inr ⟨by kernel_rfl, rfl⟩
          try simp only [Act.put, List.getElem_toArray, List.getElem_cons_succ, List.getElem_cons_zero, List.setIfInBounds_toArray, List.set_cons_zero, List.set_cons_succ]
          refine wpAnyH_take (i := 21) (oi := ?oia21) (v := undef) ?hia21 (by kernel_rfl) (by kernel_rfl) (by kernel_rfl) ?hqa21 ?hya21 hHeld ?resta21
          case hia21 => exact rfl
          case hqa21 => exact fun _ _ _ h => h
          case hya21 => exact Or.inr ⟨by kernel_rfl, rfl⟩
          try simp only [Act.put, List.getElem_toArray, List.getElem_cons_succ, List.getElem_cons_zero, List.setIfInBounds_toArray, List.set_cons_zero, List.set_cons_succ]
          refine wpAnyH_take (i := 22) (oi := ?oia22) (v := undef) ?hia22 (by kernel_rfl) (by kernel_rfl) (by kernel_rfl) ?hqa22 ?hya22 hHeld ?resta22
          case hia22 => exact rfl
          case hqa22 => exact fun _ _ _ h => h
          case hya22 => exact Or.inr ⟨by kernel_rfl, rfl⟩
          try simp only [Act.put, List.getElem_toArray, List.getElem_cons_succ, List.getElem_cons_zero, List.setIfInBounds_toArray, List.set_cons_zero, List.set_cons_succ]
          refine wpAnyH_take (i := 23) (oi := ?oia23) (v := undef) ?hia23 (by kernel_rfl) (by kernel_rfl) (by kernel_rfl) ?hqa23 ?hya23 hHeld ?resta23
          case hia23 => exact rfl
          case hqa23 => exact fun _ _ _ h => h
          case hya23 => exact Or.inr ⟨by kernel_rfl, rfl⟩
          try simp only [Act.put, List.getElem_toArray, List.getElem_cons_succ, List.getElem_cons_zero, List.setIfInBounds_toArray, List.set_cons_zero, List.set_cons_succ]
          refine wpAnyH_take (i := 24) (oi := ?oia24) (v := undef) ?hia24 (by kernel_rfl) (by kernel_rfl) (by kernel_rfl) ?hqa24 ?hya24 hHeld ?resta24
          case hia24 => exact rfl
          case hqa24 => exact fun _ _ _ h => h
          case hya24 => exact Or.inr ⟨by kernel_rfl, rfl⟩
          try simp only [Act.put, List.getElem_toArray, List.getElem_cons_succ, List.getElem_cons_zero, List.setIfInBounds_toArray, List.set_cons_zero, List.set_cons_succ]
          refine wpAnyH_take (i := 25) (oi := ?oia25) (v := undef) ?hia25 (by kernel_rfl) (by kernel_rfl) (by kernel_rfl) ?hqa25 ?hya25 hHeld ?resta25
          case hia25 => exact rfl
          case hqa25 => exact fun _ _ _ h => h
          case hya25 => exact Or.inr ⟨by kernel_rfl, rfl⟩
          try simp only [Act.put, List.getElem_toArray, List.getElem_cons_succ, List.getElem_cons_zero, List.setIfInBounds_toArray, List.set_cons_zero, List.set_cons_succ]
          refine wpAnyH_take (i := 26) (oi := ?oia26) (v := undef) ?hia26 (by kernel_rfl) (by kernel_rfl) (by kernel_rfl) ?hqa26 ?hya26 hHeld ?resta26
          case hia26 => exact rfl
          case hqa26 => exact fun _ _ _ h => h
          case hya26 => exact Or.inr ⟨by kernel_rfl, rfl⟩
          try simp only [Act.put, List.getElem_toArray, List.getElem_cons_succ, List.getElem_cons_zero, List.setIfInBounds_toArray, List.set_cons_zero, List.set_cons_succ]
          refine wpAnyH_take (i := 27) (oi := ?oia27) (v := undef) ?hia27 (by kernel_rfl) (by kernel_rfl) (by kernel_rfl) ?hqa27 ?hya27 hHeld ?resta27
          case hia27 => exact rfl
          case hqa27 => exact fun _ _ _ h => h
          case hya27 => exact Or.inr ⟨by kernel_rfl, rfl⟩
          try simp only [Act.put, List.getElem_toArray, List.getElem_cons_succ, List.getElem_cons_zero, List.setIfInBounds_toArray, List.set_cons_zero, List.set_cons_succ]
          refine wpAnyH_take (i := 28) (oi := ?oia28) (v := undef) ?hia28 (by kernel_rfl) (by kernel_rfl) (by kernel_rfl) ?hqa28 ?hya28 hHeld ?resta28
          case hia28 => exact rfl
          case hqa28 => exact fun _ _ _ h => h
          case hya28 => exact Or.inr ⟨by kernel_rfl, rfl⟩
          try simp only [Act.put, List.getElem_toArray, List.getElem_cons_succ, List.getElem_cons_zero, List.setIfInBounds_toArray, List.set_cons_zero, List.set_cons_succ]
          refine wpAnyH_take (i := 29) (oi := ?oia29) (v := undef) ?hia29 (by kernel_rfl) (by kernel_rfl) (by kernel_rfl) ?hqa29 ?hya29 hHeld ?resta29
          case hia29 => exact rfl
          case hqa29 => exact fun _ _ _ h => h
          case hya29 => exact Or.inr ⟨by kernel_rfl, rfl⟩
          try simp only [Act.put, List.getElem_toArray, List.getElem_cons_succ, List.getElem_cons_zero, List.setIfInBounds_toArray, List.set_cons_zero, List.set_cons_succ]
          refine wpAnyH_take (i := 30) (oi := ?oia30) (v := undef) ?hia30 (by kernel_rfl) (by kernel_rfl) (by kernel_rfl) ?hqa30 ?hya30 hHeld ?resta30
          case hia30 => exact rfl
          case hqa30 => exact fun _ _ _ h => h
          case hya30 => exact Or.inr ⟨by kernel_rfl, rfl⟩
          try simp only [Act.put, List.getElem_toArray, List.getElem_cons_succ, List.getElem_cons_zero, List.setIfInBounds_toArray, List.set_cons_zero, List.set_cons_succ]
          refine wpAnyH_take (i := 31) (oi := ?oia31) (v := ?va31) ?hia31 (by kernel_rfl) (by kernel_rfl) (by kernel_rfl) ?hqa31 ?hya31 hHeld ?resta31
          case hia31 => exact rfl
          case hqa31 => exact fun _ _ _ h => h
          case hya31 =>
            refine Or.inl ⟨by rfl, ?_⟩
            intro w hSw
            (try dsimp only at hSw)
            go_simp
            (try with_reducible rfl)
          try simp only [Act.put, List.getElem_toArray, List.getElem_cons_succ, List.getElem_cons_zero, List.setIfInBounds_toArray, List.set_cons_zero, List.set_cons_succ]
          refine wpAnyH_take (i := 32) (oi := ?oia32) (v := ?va32) ?hia32 (by kernel_rfl) (by kernel_rfl) (by kernel_rfl) ?hqa32 ?hya32 hHeld ?resta32
          case hia32 => exact rfl
          case hqa32 => exact fun _ _ _ h => h
          case hya32 =>
            refine Or.inl ⟨by rfl, ?_⟩
            intro w hSw
            (try dsimp only at hSw)
            go_simp
            (try with_reducible rfl)
          try simp only [Act.put, List.getElem_toArray, List.getElem_cons_succ, List.getElem_cons_zero, List.setIfInBounds_toArray, List.set_cons_zero, List.set_cons_succ]
          refine wpAnyH_take (i := 33) (oi := ?oia33) (v := undef) ?hia33 (by kernel_rfl) (by kernel_rfl) (by kernel_rfl) ?hqa33 ?hya33 hHeld ?resta33
          case hia33 => exact rfl
          case hqa33 => exact fun _ _ _ h => h
          case hya33 => exact Or.inr ⟨by kernel_rfl, rfl⟩
          try simp only [Act.put, List.getElem_toArray, List.getElem_cons_succ, List.getElem_cons_zero, List.setIfInBounds_toArray, List.set_cons_zero, List.set_cons_succ]
          refine wpAnyH_take (i := 34) (oi := ?oia34) (v := undef) ?hia34 (by kernel_rfl) (by kernel_rfl) (by kernel_rfl) ?hqa34 ?hya34 hHeld ?resta34
          case hia34 => exact rfl
          case hqa34 => exact fun _ _ _ h => h
          case hya34 => exact Or.inr ⟨by kernel_rfl, rfl⟩
          try simp only [Act.put, List.getElem_toArray, List.getElem_cons_succ, List.getElem_cons_zero, List.setIfInBounds_toArray, List.set_cons_zero, List.set_cons_succ]
          refine wpAnyH_take (i := 35) (oi := ?oia35) (v := undef) ?hia35 (by kernel_rfl) (by kernel_rfl) (by kernel_rfl) ?hqa35 ?hya35 hHeld ?resta35
          case hia35 => exact rfl
          case hqa35 => exact fun _ _ _ h => h
          case hya35 => exact Or.inr ⟨by kernel_rfl, rfl⟩
          try simp only [Act.put, List.getElem_toArray, List.getElem_cons_succ, List.getElem_cons_zero, List.setIfInBounds_toArray, List.set_cons_zero, List.set_cons_succ]
          refine wpAnyH_take (i := 36) (oi := ?oia36) (v := undef) ?hia36 (by kernel_rfl) (by kernel_rfl) (by kernel_rfl) ?hqa36 ?hya36 hHeld ?resta36
          case hia36 => exact rfl
          case hqa36 => exact fun _ _ _ h => h
          case hya36 => exact Or.inr ⟨by kernel_rfl, rfl⟩
          try simp only [Act.put, List.getElem_toArray, List.getElem_cons_succ, List.getElem_cons_zero, List.setIfInBounds_toArray, List.set_cons_zero, List.set_cons_succ]
          refine wpAnyH_take (i := 37) (oi := ?oia37) (v := undef) ?hia37 (by kernel_rfl) (by kernel_rfl) (by kernel_rfl) ?hqa37 ?hya37 hHeld ?resta37
          case hia37 => exact rfl
          case hqa37 => exact fun _ _ _ h => h
          case hya37 => exact Or.inr ⟨by kernel_rfl, rfl⟩
          try simp only [Act.put, List.getElem_toArray, List.getElem_cons_succ, List.getElem_cons_zero, List.setIfInBounds_toArray, List.set_cons_zero, List.set_cons_succ]
          refine wpAnyH_take (i := 38) (oi := ?oia38) (v := undef) ?hia38 (by kernel_rfl) (by kernel_rfl) (by kernel_rfl) ?hqa38 ?hya38 hHeld ?resta38
          case hia38 => exact rfl
          case hqa38 => exact fun _ _ _ h => h
          case hya38 => exact Or.inr ⟨by kernel_rfl, rfl⟩
          try simp only [Act.put, List.getElem_toArray, List.getElem_cons_succ, List.getElem_cons_zero, List.setIfInBounds_toArray, List.set_cons_zero, List.set_cons_succ]
          refine wpAnyH_take (i := 39) (oi := ?oia39) (v := undef) ?hia39 (by kernel_rfl) (by kernel_rfl) (by kernel_rfl) ?hqa39 ?hya39 hHeld ?resta39
          case hia39 => exact rfl
          case hqa39 => exact fun _ _ _ h => h
          case hya39 => exact Or.inr ⟨by kernel_rfl, rfl⟩
          try simp only [Act.put, List.getElem_toArray, List.getElem_cons_succ, List.getElem_cons_zero, List.setIfInBounds_toArray, List.set_cons_zero, List.set_cons_succ]
          refine wpAnyH_take (i := 40) (oi := ?oia40) (v := ?va40) ?hia40 (by kernel_rfl) (by kernel_rfl) (by kernel_rfl) ?hqa40 ?hya40 hHeld ?resta40
          case hia40 => exact rfl
          case hqa40 => exact fun _ _ _ h => h
          case hya40 =>
            refine Or.inl ⟨by rfl, ?_⟩
            intro w hSw
            (try dsimp only at hSw)
            go_simp
            (try with_reducible rfl)
          try simp only [Act.put, List.getElem_toArray, List.getElem_cons_succ, List.getElem_cons_zero, List.setIfInBounds_toArray, List.set_cons_zero, List.set_cons_succ]
          refine wpAnyH_done (by kernel_rfl) ?_ _
          go_wp2_with fail
          go_ret
          exact ⟨ret_int HR.out.symm, HB.out.drew⟩
        · by_cases g7 : 8 ≤ e.at_
          · have HR := Lib.hid (vx_el h4 he (by rw [show btw e.at_ 0 7 = false by unfold btw; simp; omega]; rfl))
            clear he hx
            go_upto_region 6 with fail
            refine wp_region_held_drew (S := (fun w' => w'.cell? ⟨b, off + k * 5, none⟩ = some (.int .i64 e.at_) ∧ w'.cell? ⟨b, off + k * 5 + 1, none⟩ = some (.int .i64 e.ln.op) ∧ w'.cell? ⟨b, off + k * 5 + 2, none⟩ = some (.int .i64 e.ln.to) ∧ w'.cell? ⟨b, off + k * 5 + 3, none⟩ = some (.int .i64 e.ln.a) ∧ w'.cell? ⟨b, off + k * 5 + 4, none⟩ = some (.int .i64 e.ln.b))) (by kernel_rfl) ?_ (fun hHeld => ?_)
            · exact ⟨c0, c1, c2, c3, c4⟩
            refine wpAnyH_take (i := 0) (oi := ?oib00) (v := ?vb00) ?hib00 (by kernel_rfl) (by kernel_rfl) (by kernel_rfl) ?hqb00 ?hyb00 hHeld ?restb00
            case hib00 => exact rfl
            case hqb00 => exact fun _ _ _ h => h
            case hyb00 =>
              refine Or.inl ⟨by rfl, ?_⟩
              intro w hSw
              (try dsimp only at hSw)
              go_simp
              (try with_reducible rfl)
            try simp only [Act.put, List.getElem_toArray, List.getElem_cons_succ, List.getElem_cons_zero, List.setIfInBounds_toArray, List.set_cons_zero, List.set_cons_succ]
            refine wpAnyH_take (i := 1) (oi := ?oib01) (v := ?vb01) ?hib01 (by kernel_rfl) (by kernel_rfl) (by kernel_rfl) ?hqb01 ?hyb01 hHeld ?restb01
            case hib01 => exact rfl
            case hqb01 => exact fun _ _ _ h => h
            case hyb01 =>
              refine Or.inl ⟨by rfl, ?_⟩
              intro w hSw
              (try dsimp only at hSw)
              go_simp
              (try with_reducible rfl)
            try simp only [Act.put, List.getElem_toArray, List.getElem_cons_succ, List.getElem_cons_zero, List.setIfInBounds_toArray, List.set_cons_zero, List.set_cons_succ]
            refine wpAnyH_take (i := 2) (oi := ?oib02) (v := ?vb02) ?hib02 (by kernel_rfl) (by kernel_rfl) (by kernel_rfl) ?hqb02 ?hyb02 hHeld ?restb02
            case hib02 => exact rfl
            case hqb02 => exact fun _ _ _ h => h
            case hyb02 =>
              refine Or.inl ⟨by rfl, ?_⟩
              intro w hSw
              (try dsimp only at hSw)
              go_simp
              (try with_reducible rfl)
            try simp only [Act.put, List.getElem_toArray, List.getElem_cons_succ, List.getElem_cons_zero, List.setIfInBounds_toArray, List.set_cons_zero, List.set_cons_succ]
            refine wpAnyH_take (i := 3) (oi := ?oib03) (v := ?vb03) ?hib03 (by kernel_rfl) (by kernel_rfl) (by kernel_rfl) ?hqb03 ?hyb03 hHeld ?restb03
            case hib03 => exact rfl
            case hqb03 => exact fun _ _ _ h => h
            case hyb03 =>
              refine Or.inl ⟨by rfl, ?_⟩
              intro w hSw
              (try dsimp only at hSw)
              go_simp
              (try with_reducible rfl)
            try simp only [Act.put, List.getElem_toArray, List.getElem_cons_succ, List.getElem_cons_zero, List.setIfInBounds_toArray, List.set_cons_zero, List.set_cons_succ]
            refine wpAnyH_take (i := 4) (oi := ?oib04) (v := ?vb04) ?hib04 (by kernel_rfl) (by kernel_rfl) (by kernel_rfl) ?hqb04 ?hyb04 hHeld ?restb04
            case hib04 => exact rfl
            case hqb04 => exact fun _ _ _ h => h
            case hyb04 =>
              refine Or.inl ⟨by rfl, ?_⟩
              intro w hSw
              (try dsimp only at hSw)
              go_simp
              (try with_reducible rfl)
            try simp only [Act.put, List.getElem_toArray, List.getElem_cons_succ, List.getElem_cons_zero, List.setIfInBounds_toArray, List.set_cons_zero, List.set_cons_succ]
            refine wpAnyH_take (i := 5) (oi := ?oib05) (v := ?vb05) ?hib05 (by kernel_rfl) (by kernel_rfl) (by kernel_rfl) ?hqb05 ?hyb05 hHeld ?restb05
            case hib05 => exact rfl
            case hqb05 => exact fun _ _ _ h => h
            case hyb05 =>
              refine Or.inl ⟨by rfl, ?_⟩
              intro w hSw
              (try dsimp only at hSw)
              go_simp
              (try with_reducible rfl)
            try simp only [Act.put, List.getElem_toArray, List.getElem_cons_succ, List.getElem_cons_zero, List.setIfInBounds_toArray, List.set_cons_zero, List.set_cons_succ]
            refine wpAnyH_take (i := 6) (oi := ?oib06) (v := ?vb06) ?hib06 (by kernel_rfl) (by kernel_rfl) (by kernel_rfl) ?hqb06 ?hyb06 hHeld ?restb06
            case hib06 => exact rfl
            case hqb06 => exact fun _ _ _ h => h
            case hyb06 =>
              refine Or.inl ⟨by rfl, ?_⟩
              intro w hSw
              (try dsimp only at hSw)
              go_simp
              (try with_reducible rfl)
            try simp only [Act.put, List.getElem_toArray, List.getElem_cons_succ, List.getElem_cons_zero, List.setIfInBounds_toArray, List.set_cons_zero, List.set_cons_succ]
            refine wpAnyH_take (i := 7) (oi := ?oib07) (v := ?vb07) ?hib07 (by kernel_rfl) (by kernel_rfl) (by kernel_rfl) ?hqb07 ?hyb07 hHeld ?restb07
            case hib07 => exact rfl
            case hqb07 => exact fun _ _ _ h => h
            case hyb07 =>
              refine Or.inl ⟨by rfl, ?_⟩
              intro w hSw
              (try dsimp only at hSw)
              go_simp
              (try with_reducible rfl)
            try simp only [Act.put, List.getElem_toArray, List.getElem_cons_succ, List.getElem_cons_zero, List.setIfInBounds_toArray, List.set_cons_zero, List.set_cons_succ]
            refine wpAnyH_take (i := 8) (oi := ?oib08) (v := ?vb08) ?hib08 (by kernel_rfl) (by kernel_rfl) (by kernel_rfl) ?hqb08 ?hyb08 hHeld ?restb08
            case hib08 => exact rfl
            case hqb08 => exact fun _ _ _ h => h
            case hyb08 =>
              refine Or.inl ⟨by rfl, ?_⟩
              intro w hSw
              (try dsimp only at hSw)
              go_simp
              (try with_reducible rfl)
            try simp only [Act.put, List.getElem_toArray, List.getElem_cons_succ, List.getElem_cons_zero, List.setIfInBounds_toArray, List.set_cons_zero, List.set_cons_succ]
            refine wpAnyH_take (i := 9) (oi := ?oib09) (v := ?vb09) ?hib09 (by kernel_rfl) (by kernel_rfl) (by kernel_rfl) ?hqb09 ?hyb09 hHeld ?restb09
            case hib09 => exact rfl
            case hqb09 => exact fun _ _ _ h => h
            case hyb09 =>
              refine Or.inl ⟨by rfl, ?_⟩
              intro w hSw
              (try dsimp only at hSw)
              go_simp
              (try with_reducible rfl)
            try simp only [Act.put, List.getElem_toArray, List.getElem_cons_succ, List.getElem_cons_zero, List.setIfInBounds_toArray, List.set_cons_zero, List.set_cons_succ]
            refine wpAnyH_take (i := 10) (oi := ?oib10) (v := ?vb10) ?hib10 (by kernel_rfl) (by kernel_rfl) (by kernel_rfl) ?hqb10 ?hyb10 hHeld ?restb10
            case hib10 => exact rfl
            case hqb10 => exact fun _ _ _ h => h
            case hyb10 =>
              refine Or.inl ⟨by rfl, ?_⟩
              intro w hSw
              (try dsimp only at hSw)
              go_simp
              (try with_reducible rfl)
            try simp only [Act.put, List.getElem_toArray, List.getElem_cons_succ, List.getElem_cons_zero, List.setIfInBounds_toArray, List.set_cons_zero, List.set_cons_succ]
            refine wpAnyH_take (i := 11) (oi := ?oib11) (v := ?vb11) ?hib11 (by kernel_rfl) (by kernel_rfl) (by kernel_rfl) ?hqb11 ?hyb11 hHeld ?restb11
            case hib11 => exact rfl
            case hqb11 => exact fun _ _ _ h => h
            case hyb11 =>
              refine Or.inl ⟨by rfl, ?_⟩
              intro w hSw
              (try dsimp only at hSw)
              go_simp
              (try with_reducible rfl)
            try simp only [Act.put, List.getElem_toArray, List.getElem_cons_succ, List.getElem_cons_zero, List.setIfInBounds_toArray, List.set_cons_zero, List.set_cons_succ]
            refine wpAnyH_take (i := 12) (oi := ?oib12) (v := ?vb12) ?hib12 (by kernel_rfl) (by kernel_rfl) (by kernel_rfl) ?hqb12 ?hyb12 hHeld ?restb12
            case hib12 => exact rfl
            case hqb12 => exact fun _ _ _ h => h
            case hyb12 =>
              refine Or.inl ⟨by rfl, ?_⟩
              intro w hSw
              (try dsimp only at hSw)
              go_simp
              (try with_reducible rfl)
            try simp only [Act.put, List.getElem_toArray, List.getElem_cons_succ, List.getElem_cons_zero, List.setIfInBounds_toArray, List.set_cons_zero, List.set_cons_succ]
            refine wpAnyH_take (i := 13) (oi := ?oib13) (v := ?vb13) ?hib13 (by kernel_rfl) (by kernel_rfl) (by kernel_rfl) ?hqb13 ?hyb13 hHeld ?restb13
            case hib13 => exact rfl
            case hqb13 => exact fun _ _ _ h => h
            case hyb13 =>
              refine Or.inl ⟨by rfl, ?_⟩
              intro w hSw
              (try dsimp only at hSw)
              go_simp
              (try with_reducible rfl)
            try simp only [Act.put, List.getElem_toArray, List.getElem_cons_succ, List.getElem_cons_zero, List.setIfInBounds_toArray, List.set_cons_zero, List.set_cons_succ]
            refine wpAnyH_take (i := 14) (oi := ?oib14) (v := ?vb14) ?hib14 (by kernel_rfl) (by kernel_rfl) (by kernel_rfl) ?hqb14 ?hyb14 hHeld ?restb14
            case hib14 => exact rfl
            case hqb14 => exact fun _ _ _ h => h
            case hyb14 =>
              refine Or.inl ⟨by rfl, ?_⟩
              intro w hSw
              (try dsimp only at hSw)
              go_simp
              (try with_reducible rfl)
            try simp only [Act.put, List.getElem_toArray, List.getElem_cons_succ, List.getElem_cons_zero, List.setIfInBounds_toArray, List.set_cons_zero, List.set_cons_succ]
            refine wpAnyH_take (i := 15) (oi := ?oib15) (v := undef) ?hib15 (by kernel_rfl) (by kernel_rfl) (by kernel_rfl) ?hqb15 ?hyb15 hHeld ?restb15
            case hib15 => exact rfl
            case hqb15 => exact fun _ _ _ h => h
            case hyb15 => exact Or.inr ⟨by kernel_rfl, rfl⟩
            try simp only [Act.put, List.getElem_toArray, List.getElem_cons_succ, List.getElem_cons_zero, List.setIfInBounds_toArray, List.set_cons_zero, List.set_cons_succ]
            refine wpAnyH_take (i := 16) (oi := ?oib16) (v := undef) ?hib16 (by kernel_rfl) (by kernel_rfl) (by kernel_rfl) ?hqb16 ?hyb16 hHeld ?restb16
            case hib16 => exact rfl
            case hqb16 => exact fun _ _ _ h => h
            case hyb16 => exact Or.inr ⟨by kernel_rfl, rfl⟩
            try simp only [Act.put, List.getElem_toArray, List.getElem_cons_succ, List.getElem_cons_zero, List.setIfInBounds_toArray, List.set_cons_zero, List.set_cons_succ]
            refine wpAnyH_take (i := 17) (oi := ?oib17) (v := undef) ?hib17 (by kernel_rfl) (by kernel_rfl) (by kernel_rfl) ?hqb17 ?hyb17 hHeld ?restb17
            case hib17 => exact rfl
            case hqb17 => exact fun _ _ _ h => h
            case hyb17 => exact Or.inr ⟨by kernel_rfl, rfl⟩
            try simp only [Act.put, List.getElem_toArray, List.getElem_cons_succ, List.getElem_cons_zero, List.setIfInBounds_toArray, List.set_cons_zero, List.set_cons_succ]
            refine wpAnyH_take (i := 18) (oi := ?oib18) (v := undef) ?hib18 (by kernel_rfl) (by kernel_rfl) (by kernel_rfl) ?hqb18 ?hyb18 hHeld ?restb18
            case hib18 => exact rfl
            case hqb18 => exact fun _ _ _ h => h
            case hyb18 => exact Or.inr ⟨by kernel_rfl, rfl⟩
            try simp only [Act.put, List.getElem_toArray, List.getElem_cons_succ, List.getElem_cons_zero, List.setIfInBounds_toArray, List.set_cons_zero, List.set_cons_succ]
            refine wpAnyH_take (i := 19) (oi := ?oib19) (v := undef) ?hib19 (by kernel_rfl) (by kernel_rfl) (by kernel_rfl) ?hqb19 ?hyb19 hHeld ?restb19
            case hib19 => exact rfl
            case hqb19 => exact fun _ _ _ h => h
            case hyb19 => exact Or.inr ⟨by kernel_rfl, rfl⟩
            try simp only [Act.put, List.getElem_toArray, List.getElem_cons_succ, List.getElem_cons_zero, List.setIfInBounds_toArray, List.set_cons_zero, List.set_cons_succ]
            refine wpAnyH_take (i := 20) (oi := ?oib20) (v := undef) ?hib20 (by kernel_rfl) (by kernel_rfl) (by kernel_rfl) ?hqb20 ?hyb20 hHeld ?restb20
            case hib20 => exact rfl
            case hqb20 => exact fun _ _ _ h => h
            case hyb20 => exact Or.inr ⟨by kernel_rfl, rfl⟩
            try simp only [Act.put, List.getElem_toArray, List.getElem_cons_succ, List.getElem_cons_zero, List.setIfInBounds_toArray, List.set_cons_zero, List.set_cons_succ]
            refine wpAnyH_take (i := 21) (oi := ?oib21) (v := undef) ?hib21 (by kernel_rfl) (by kernel_rfl) (by kernel_rfl) ?hqb21 ?hyb21 hHeld ?restb21
            case hib21 => exact rfl
            case hqb21 => exact fun _ _ _ h => h
            case hyb21 => exact Or.inr ⟨by kernel_rfl, rfl⟩
            try simp only [Act.put, List.getElem_toArray, List.getElem_cons_succ, List.getElem_cons_zero, List.setIfInBounds_toArray, List.set_cons_zero, List.set_cons_succ]
            refine wpAnyH_take (i := 22) (oi := ?oib22) (v := undef) ?hib22 (by kernel_rfl) (by kernel_rfl) (by kernel_rfl) ?hqb22 ?hyb22 hHeld ?restb22
            case hib22 => exact rfl
            case hqb22 => exact fun _ _ _ h => h
            case hyb22 => exact Or.inr ⟨by kernel_rfl, rfl⟩
            try simp only [Act.put, List.getElem_toArray, List.getElem_cons_succ, List.getElem_cons_zero, List.setIfInBounds_toArray, List.set_cons_zero, List.set_cons_succ]
            refine wpAnyH_take (i := 23) (oi := ?oib23) (v := undef) ?hib23 (by kernel_rfl) (by kernel_rfl) (by kernel_rfl) ?hqb23 ?hyb23 hHeld ?restb23
            case hib23 => exact rfl
            case hqb23 => exact fun _ _ _ h => h
            case hyb23 => exact Or.inr ⟨by kernel_rfl, rfl⟩
            try simp only [Act.put, List.getElem_toArray, List.getElem_cons_succ, List.getElem_cons_zero, List.setIfInBounds_toArray, List.set_cons_zero, List.set_cons_succ]
            refine wpAnyH_take (i := 24) (oi := ?oib24) (v := undef) ?hib24 (by kernel_rfl) (by kernel_rfl) (by kernel_rfl) ?hqb24 ?hyb24 hHeld ?restb24
            case hib24 => exact rfl
            case hqb24 => exact fun _ _ _ h => h
            case hyb24 => exact Or.inr ⟨by kernel_rfl, rfl⟩
            try simp only [Act.put, List.getElem_toArray, List.getElem_cons_succ, List.getElem_cons_zero, List.setIfInBounds_toArray, List.set_cons_zero, List.set_cons_succ]
            refine wpAnyH_take (i := 25) (oi := ?oib25) (v := undef) ?hib25 (by kernel_rfl) (by kernel_rfl) (by kernel_rfl) ?hqb25 ?hyb25 hHeld ?restb25
            case hib25 => exact rfl
            case hqb25 => exact fun _ _ _ h => h
            case hyb25 => exact Or.inr ⟨by kernel_rfl, rfl⟩
            try simp only [Act.put, List.getElem_toArray, List.getElem_cons_succ, List.getElem_cons_zero, List.setIfInBounds_toArray, List.set_cons_zero, List.set_cons_succ]
            refine wpAnyH_take (i := 26) (oi := ?oib26) (v := undef) ?hib26 (by kernel_rfl) (by kernel_rfl) (by kernel_rfl) ?hqb26 ?hyb26 hHeld ?restb26
            case hib26 => exact rfl
            case hqb26 => exact fun _ _ _ h => h
            case hyb26 => exact Or.inr ⟨by kernel_rfl, rfl⟩
            try simp only [Act.put, List.getElem_toArray, List.getElem_cons_succ, List.getElem_cons_zero, List.setIfInBounds_toArray, List.set_cons_zero, List.set_cons_succ]
            refine wpAnyH_take (i := 27) (oi := ?oib27) (v := undef) ?hib27 (by kernel_rfl) (by kernel_rfl) (by kernel_rfl) ?hqb27 ?hyb27 hHeld ?restb27
            case hib27 => exact rfl
            case hqb27 => exact fun _ _ _ h => h
            case hyb27 => exact Or.inr ⟨by kernel_rfl, rfl⟩
            try simp only [Act.put, List.getElem_toArray, List.getElem_cons_succ, List.getElem_cons_zero, List.setIfInBounds_toArray, List.set_cons_zero, List.set_cons_succ]
            refine wpAnyH_take (i := 28) (oi := ?oib28) (v := undef) ?hib28 (by kernel_rfl) (by kernel_rfl) (by kernel_rfl) ?hqb28 ?hyb28 hHeld ?restb28
            case hib28 => exact rfl
            case hqb28 => exact fun _ _ _ h => h
            case hyb28 => exact Or.inr ⟨by kernel_rfl, rfl⟩
            try simp only [Act.put, List.getElem_toArray, List.getElem_cons_succ, List.getElem_cons_zero, List.setIfInBounds_toArray, List.set_cons_zero, List.set_cons_succ]
            refine wpAnyH_take (i := 29) (oi := ?oib29) (v := undef) ?hib29 (by kernel_rfl) (by kernel_rfl) (by kernel_rfl) ?hqb29 ?hyb29 hHeld ?restb29
            case hib29 => exact rfl
            case hqb29 => exact fun _ _ _ h => h
            case hyb29 => exact Or.inr ⟨by kernel_rfl, rfl⟩
            try simp only [Act.put, List.getElem_toArray, List.getElem_cons_succ, List.getElem_cons_zero, List.setIfInBounds_toArray, List.set_cons_zero, List.set_cons_succ]
            refine wpAnyH_take (i := 30) (oi := ?oib30) (v := undef) ?hib30 (by kernel_rfl) (by kernel_rfl) (by kernel_rfl) ?hqb30 ?hyb30 hHeld ?restb30
            case hib30 => exact rfl
            case hqb30 => exact fun _ _ _ h => h
            case hyb30 => exact Or.inr ⟨by kernel_rfl, rfl⟩
            try simp only [Act.put, List.getElem_toArray, List.getElem_cons_succ, List.getElem_cons_zero, List.setIfInBounds_toArray, List.set_cons_zero, List.set_cons_succ]
            refine wpAnyH_take (i := 31) (oi := ?oib31) (v := ?vb31) ?hib31 (by kernel_rfl) (by kernel_rfl) (by kernel_rfl) ?hqb31 ?hyb31 hHeld ?restb31
            case hib31 => exact rfl
            case hqb31 => exact fun _ _ _ h => h
            case hyb31 =>
              refine Or.inl ⟨by rfl, ?_⟩
              intro w hSw
              (try dsimp only at hSw)
              go_simp
              (try with_reducible rfl)
            try simp only [Act.put, List.getElem_toArray, List.getElem_cons_succ, List.getElem_cons_zero, List.setIfInBounds_toArray, List.set_cons_zero, List.set_cons_succ]
            refine wpAnyH_take (i := 32) (oi := ?oib32) (v := ?vb32) ?hib32 (by kernel_rfl) (by kernel_rfl) (by kernel_rfl) ?hqb32 ?hyb32 hHeld ?restb32
            case hib32 => exact rfl
            case hqb32 => exact fun _ _ _ h => h
            case hyb32 =>
              refine Or.inl ⟨by rfl, ?_⟩
              intro w hSw
              (try dsimp only at hSw)
              go_simp
              (try with_reducible rfl)
            try simp only [Act.put, List.getElem_toArray, List.getElem_cons_succ, List.getElem_cons_zero, List.setIfInBounds_toArray, List.set_cons_zero, List.set_cons_succ]
            refine wpAnyH_take (i := 33) (oi := ?oib33) (v := undef) ?hib33 (by kernel_rfl) (by kernel_rfl) (by kernel_rfl) ?hqb33 ?hyb33 hHeld ?restb33
            case hib33 => exact rfl
            case hqb33 => exact fun _ _ _ h => h
            case hyb33 => exact Or.inr ⟨by kernel_rfl, rfl⟩
            try simp only [Act.put, List.getElem_toArray, List.getElem_cons_succ, List.getElem_cons_zero, List.setIfInBounds_toArray, List.set_cons_zero, List.set_cons_succ]
            refine wpAnyH_take (i := 34) (oi := ?oib34) (v := undef) ?hib34 (by kernel_rfl) (by kernel_rfl) (by kernel_rfl) ?hqb34 ?hyb34 hHeld ?restb34
            case hib34 => exact rfl
            case hqb34 => exact fun _ _ _ h => h
            case hyb34 => exact Or.inr ⟨by kernel_rfl, rfl⟩
            try simp only [Act.put, List.getElem_toArray, List.getElem_cons_succ, List.getElem_cons_zero, List.setIfInBounds_toArray, List.set_cons_zero, List.set_cons_succ]
            refine wpAnyH_take (i := 35) (oi := ?oib35) (v := undef) ?hib35 (by kernel_rfl) (by kernel_rfl) (by kernel_rfl) ?hqb35 ?hyb35 hHeld ?restb35
            case hib35 => exact rfl
            case hqb35 => exact fun _ _ _ h => h
            case hyb35 => exact Or.inr ⟨by kernel_rfl, rfl⟩
            try simp only [Act.put, List.getElem_toArray, List.getElem_cons_succ, List.getElem_cons_zero, List.setIfInBounds_toArray, List.set_cons_zero, List.set_cons_succ]
            refine wpAnyH_take (i := 36) (oi := ?oib36) (v := undef) ?hib36 (by kernel_rfl) (by kernel_rfl) (by kernel_rfl) ?hqb36 ?hyb36 hHeld ?restb36
            case hib36 => exact rfl
            case hqb36 => exact fun _ _ _ h => h
            case hyb36 => exact Or.inr ⟨by kernel_rfl, rfl⟩
            try simp only [Act.put, List.getElem_toArray, List.getElem_cons_succ, List.getElem_cons_zero, List.setIfInBounds_toArray, List.set_cons_zero, List.set_cons_succ]
            refine wpAnyH_take (i := 37) (oi := ?oib37) (v := undef) ?hib37 (by kernel_rfl) (by kernel_rfl) (by kernel_rfl) ?hqb37 ?hyb37 hHeld ?restb37
            case hib37 => exact rfl
            case hqb37 => exact fun _ _ _ h => h
            case hyb37 => exact Or.inr ⟨by kernel_rfl, rfl⟩
            try simp only [Act.put, List.getElem_toArray, List.getElem_cons_succ, List.getElem_cons_zero, List.setIfInBounds_toArray, List.set_cons_zero, List.set_cons_succ]
            refine wpAnyH_take (i := 38) (oi := ?oib38) (v := undef) ?hib38 (by kernel_rfl) (by kernel_rfl) (by kernel_rfl) ?hqb38 ?hyb38 hHeld ?restb38
            case hib38 => exact rfl
            case hqb38 => exact fun _ _ _ h => h
            case hyb38 => exact Or.inr ⟨by kernel_rfl, rfl⟩
            try simp only [Act.put, List.getElem_toArray, List.getElem_cons_succ, List.getElem_cons_zero, List.setIfInBounds_toArray, List.set_cons_zero, List.set_cons_succ]
            refine wpAnyH_take (i := 39) (oi := ?oib39) (v := undef) ?hib39 (by kernel_rfl) (by kernel_rfl) (by kernel_rfl) ?hqb39 ?hyb39 hHeld ?restb39
            case hib39 => exact rfl
            case hqb39 => exact fun _ _ _ h => h
            case hyb39 => exact Or.inr ⟨by kernel_rfl, rfl⟩
            try simp only [Act.put, List.getElem_toArray, List.getElem_cons_succ, List.getElem_cons_zero, List.setIfInBounds_toArray, List.set_cons_zero, List.set_cons_succ]
            refine wpAnyH_take (i := 40) (oi := ?oib40) (v := ?vb40) ?hib40 (by kernel_rfl) (by kernel_rfl) (by kernel_rfl) ?hqb40 ?hyb40 hHeld ?restb40
            case hib40 => exact rfl
            case hqb40 => exact fun _ _ _ h => h
            case hyb40 =>
              refine Or.inl ⟨by rfl, ?_⟩
              intro w hSw
              (try dsimp only at hSw)
              go_simp
              (try with_reducible rfl)
            try simp only [Act.put, List.getElem_toArray, List.getElem_cons_succ, List.getElem_cons_zero, List.setIfInBounds_toArray, List.set_cons_zero, List.set_cons_succ]
            refine wpAnyH_done (by kernel_rfl) ?_ _
            go_wp2_with fail
            go_ret
            exact ⟨ret_int HR.out.symm, HB.out.drew⟩
          · have hbt : btw e.at_ 0 7 = true := btw_true.2 (by omega)
            by_cases hk0 : k = 0
            · subst hk0
              have k0 : ¬ (0 : Int) < ((0 : Nat) : Int) := by simp
              rw [Nat.zero_mul, Nat.add_zero] at c0 c1 c2 c3 c4
              cases hl : isLn e.ln
              · have HR := Lib.hid (vx_el h4 he (by rw [hbt, hl]; rfl))
                rw [hl] at HVL
                clear he hx hbt hl
                go_upto_region 6 with fail
                refine wp_region_held_drew (S := (fun w' => w'.cell? ⟨b, off, none⟩ = some (.int .i64 e.at_) ∧ w'.cell? ⟨b, off + 1, none⟩ = some (.int .i64 e.ln.op) ∧ w'.cell? ⟨b, off + 2, none⟩ = some (.int .i64 e.ln.to) ∧ w'.cell? ⟨b, off + 3, none⟩ = some (.int .i64 e.ln.a) ∧ w'.cell? ⟨b, off + 4, none⟩ = some (.int .i64 e.ln.b))) (by kernel_rfl) ?_ (fun hHeld => ?_)
                · exact ⟨c0, c1, c2, c3, c4⟩
                refine wpAnyH_take (i := 0) (oi := ?oicx00) (v := ?vcx00) ?hicx00 (by kernel_rfl) (by kernel_rfl) (by kernel_rfl) ?hqcx00 ?hycx00 hHeld ?restcx00
                case hicx00 => exact rfl
                case hqcx00 => exact fun _ _ _ h => h
                case hycx00 =>
                  refine Or.inl ⟨by rfl, ?_⟩
                  intro w hSw
                  (try dsimp only at hSw)
                  go_simp
                  (try with_reducible rfl)
                try simp only [Act.put, List.getElem_toArray, List.getElem_cons_succ, List.getElem_cons_zero, List.setIfInBounds_toArray, List.set_cons_zero, List.set_cons_succ]
                refine wpAnyH_take (i := 1) (oi := ?oicx01) (v := ?vcx01) ?hicx01 (by kernel_rfl) (by kernel_rfl) (by kernel_rfl) ?hqcx01 ?hycx01 hHeld ?restcx01
                case hicx01 => exact rfl
                case hqcx01 => exact fun _ _ _ h => h
                case hycx01 =>
                  refine Or.inl ⟨by rfl, ?_⟩
                  intro w hSw
                  (try dsimp only at hSw)
                  go_simp
                  (try with_reducible rfl)
                try simp only [Act.put, List.getElem_toArray, List.getElem_cons_succ, List.getElem_cons_zero, List.setIfInBounds_toArray, List.set_cons_zero, List.set_cons_succ]
                refine wpAnyH_take (i := 2) (oi := ?oicx02) (v := ?vcx02) ?hicx02 (by kernel_rfl) (by kernel_rfl) (by kernel_rfl) ?hqcx02 ?hycx02 hHeld ?restcx02
                case hicx02 => exact rfl
                case hqcx02 => exact fun _ _ _ h => h
                case hycx02 =>
                  refine Or.inl ⟨by rfl, ?_⟩
                  intro w hSw
                  (try dsimp only at hSw)
                  go_simp
                  (try with_reducible rfl)
                try simp only [Act.put, List.getElem_toArray, List.getElem_cons_succ, List.getElem_cons_zero, List.setIfInBounds_toArray, List.set_cons_zero, List.set_cons_succ]
                refine wpAnyH_take (i := 3) (oi := ?oicx03) (v := ?vcx03) ?hicx03 (by kernel_rfl) (by kernel_rfl) (by kernel_rfl) ?hqcx03 ?hycx03 hHeld ?restcx03
                case hicx03 => exact rfl
                case hqcx03 => exact fun _ _ _ h => h
                case hycx03 =>
                  refine Or.inl ⟨by rfl, ?_⟩
                  intro w hSw
                  (try dsimp only at hSw)
                  go_simp
                  (try with_reducible rfl)
                try simp only [Act.put, List.getElem_toArray, List.getElem_cons_succ, List.getElem_cons_zero, List.setIfInBounds_toArray, List.set_cons_zero, List.set_cons_succ]
                refine wpAnyH_take (i := 4) (oi := ?oicx04) (v := ?vcx04) ?hicx04 (by kernel_rfl) (by kernel_rfl) (by kernel_rfl) ?hqcx04 ?hycx04 hHeld ?restcx04
                case hicx04 => exact rfl
                case hqcx04 => exact fun _ _ _ h => h
                case hycx04 =>
                  refine Or.inl ⟨by rfl, ?_⟩
                  intro w hSw
                  (try dsimp only at hSw)
                  go_simp
                  (try with_reducible rfl)
                try simp only [Act.put, List.getElem_toArray, List.getElem_cons_succ, List.getElem_cons_zero, List.setIfInBounds_toArray, List.set_cons_zero, List.set_cons_succ]
                refine wpAnyH_take (i := 5) (oi := ?oicx05) (v := ?vcx05) ?hicx05 (by kernel_rfl) (by kernel_rfl) (by kernel_rfl) ?hqcx05 ?hycx05 hHeld ?restcx05
                case hicx05 => exact rfl
                case hqcx05 => exact fun _ _ _ h => h
                case hycx05 =>
                  refine Or.inl ⟨by rfl, ?_⟩
                  intro w hSw
                  (try dsimp only at hSw)
                  go_simp
                  (try with_reducible rfl)
                try simp only [Act.put, List.getElem_toArray, List.getElem_cons_succ, List.getElem_cons_zero, List.setIfInBounds_toArray, List.set_cons_zero, List.set_cons_succ]
                refine wpAnyH_take (i := 6) (oi := ?oicx06) (v := ?vcx06) ?hicx06 (by kernel_rfl) (by kernel_rfl) (by kernel_rfl) ?hqcx06 ?hycx06 hHeld ?restcx06
                case hicx06 => exact rfl
                case hqcx06 => exact fun _ _ _ h => h
                case hycx06 =>
                  refine Or.inl ⟨by rfl, ?_⟩
                  intro w hSw
                  (try dsimp only at hSw)
                  go_simp
                  (try with_reducible rfl)
                try simp only [Act.put, List.getElem_toArray, List.getElem_cons_succ, List.getElem_cons_zero, List.setIfInBounds_toArray, List.set_cons_zero, List.set_cons_succ]
                refine wpAnyH_take (i := 7) (oi := ?oicx07) (v := ?vcx07) ?hicx07 (by kernel_rfl) (by kernel_rfl) (by kernel_rfl) ?hqcx07 ?hycx07 hHeld ?restcx07
                case hicx07 => exact rfl
                case hqcx07 => exact fun _ _ _ h => h
                case hycx07 =>
                  refine Or.inl ⟨by rfl, ?_⟩
                  intro w hSw
                  (try dsimp only at hSw)
                  go_simp
                  (try with_reducible rfl)
                try simp only [Act.put, List.getElem_toArray, List.getElem_cons_succ, List.getElem_cons_zero, List.setIfInBounds_toArray, List.set_cons_zero, List.set_cons_succ]
                refine wpAnyH_take (i := 8) (oi := ?oicx08) (v := ?vcx08) ?hicx08 (by kernel_rfl) (by kernel_rfl) (by kernel_rfl) ?hqcx08 ?hycx08 hHeld ?restcx08
                case hicx08 => exact rfl
                case hqcx08 => exact fun _ _ _ h => h
                case hycx08 =>
                  refine Or.inl ⟨by rfl, ?_⟩
                  intro w hSw
                  (try dsimp only at hSw)
                  go_simp
                  (try with_reducible rfl)
                try simp only [Act.put, List.getElem_toArray, List.getElem_cons_succ, List.getElem_cons_zero, List.setIfInBounds_toArray, List.set_cons_zero, List.set_cons_succ]
                refine wpAnyH_take (i := 9) (oi := ?oicx09) (v := ?vcx09) ?hicx09 (by kernel_rfl) (by kernel_rfl) (by kernel_rfl) ?hqcx09 ?hycx09 hHeld ?restcx09
                case hicx09 => exact rfl
                case hqcx09 => exact fun _ _ _ h => h
                case hycx09 =>
                  refine Or.inl ⟨by rfl, ?_⟩
                  intro w hSw
                  (try dsimp only at hSw)
                  go_simp
                  (try with_reducible rfl)
                try simp only [Act.put, List.getElem_toArray, List.getElem_cons_succ, List.getElem_cons_zero, List.setIfInBounds_toArray, List.set_cons_zero, List.set_cons_succ]
                refine wpAnyH_take (i := 10) (oi := ?oicx10) (v := ?vcx10) ?hicx10 (by kernel_rfl) (by kernel_rfl) (by kernel_rfl) ?hqcx10 ?hycx10 hHeld ?restcx10
                case hicx10 => exact rfl
                case hqcx10 => exact fun _ _ _ h => h
                case hycx10 =>
                  refine Or.inl ⟨by rfl, ?_⟩
                  intro w hSw
                  (try dsimp only at hSw)
                  go_simp
                  (try with_reducible rfl)
                try simp only [Act.put, List.getElem_toArray, List.getElem_cons_succ, List.getElem_cons_zero, List.setIfInBounds_toArray, List.set_cons_zero, List.set_cons_succ]
                refine wpAnyH_take (i := 11) (oi := ?oicx11) (v := ?vcx11) ?hicx11 (by kernel_rfl) (by kernel_rfl) (by kernel_rfl) ?hqcx11 ?hycx11 hHeld ?restcx11
                case hicx11 => exact rfl
                case hqcx11 => exact fun _ _ _ h => h
                case hycx11 =>
                  refine Or.inl ⟨by rfl, ?_⟩
                  intro w hSw
                  (try dsimp only at hSw)
                  go_simp
                  (try with_reducible rfl)
                try simp only [Act.put, List.getElem_toArray, List.getElem_cons_succ, List.getElem_cons_zero, List.setIfInBounds_toArray, List.set_cons_zero, List.set_cons_succ]
                refine wpAnyH_take (i := 12) (oi := ?oicx12) (v := ?vcx12) ?hicx12 (by kernel_rfl) (by kernel_rfl) (by kernel_rfl) ?hqcx12 ?hycx12 hHeld ?restcx12
                case hicx12 => exact rfl
                case hqcx12 => exact fun _ _ _ h => h
                case hycx12 =>
                  refine Or.inl ⟨by rfl, ?_⟩
                  intro w hSw
                  (try dsimp only at hSw)
                  go_simp
                  (try with_reducible rfl)
                try simp only [Act.put, List.getElem_toArray, List.getElem_cons_succ, List.getElem_cons_zero, List.setIfInBounds_toArray, List.set_cons_zero, List.set_cons_succ]
                refine wpAnyH_take (i := 13) (oi := ?oicx13) (v := ?vcx13) ?hicx13 (by kernel_rfl) (by kernel_rfl) (by kernel_rfl) ?hqcx13 ?hycx13 hHeld ?restcx13
                case hicx13 => exact rfl
                case hqcx13 => exact fun _ _ _ h => h
                case hycx13 =>
                  refine Or.inl ⟨by rfl, ?_⟩
                  intro w hSw
                  (try dsimp only at hSw)
                  go_simp
                  (try with_reducible rfl)
                try simp only [Act.put, List.getElem_toArray, List.getElem_cons_succ, List.getElem_cons_zero, List.setIfInBounds_toArray, List.set_cons_zero, List.set_cons_succ]
                refine wpAnyH_take (i := 14) (oi := ?oicx14) (v := ?vcx14) ?hicx14 (by kernel_rfl) (by kernel_rfl) (by kernel_rfl) ?hqcx14 ?hycx14 hHeld ?restcx14
                case hicx14 => exact rfl
                case hqcx14 => exact fun _ _ _ h => h
                case hycx14 =>
                  refine Or.inl ⟨by rfl, ?_⟩
                  intro w hSw
                  (try dsimp only at hSw)
                  go_simp
                  (try with_reducible rfl)
                try simp only [Act.put, List.getElem_toArray, List.getElem_cons_succ, List.getElem_cons_zero, List.setIfInBounds_toArray, List.set_cons_zero, List.set_cons_succ]
                refine wpAnyH_take (i := 15) (oi := ?oicx15) (v := ?vcx15) ?hicx15 (by kernel_rfl) (by kernel_rfl) (by kernel_rfl) ?hqcx15 ?hycx15 hHeld ?restcx15
                case hicx15 => exact rfl
                case hqcx15 => exact fun _ _ _ h => h
                case hycx15 =>
                  refine Or.inl ⟨by rfl, ?_⟩
                  intro w hSw
                  (try dsimp only at hSw)
                  go_simp
                  (try with_reducible rfl)
                try simp only [Act.put, List.getElem_toArray, List.getElem_cons_succ, List.getElem_cons_zero, List.setIfInBounds_toArray, List.set_cons_zero, List.set_cons_succ]
                refine wpAnyH_take (i := 16) (oi := ?oicx16) (v := ?vcx16) ?hicx16 (by kernel_rfl) (by kernel_rfl) (by kernel_rfl) ?hqcx16 ?hycx16 hHeld ?restcx16
                case hicx16 => exact rfl
                case hqcx16 => exact fun _ _ _ h => h
                case hycx16 =>
                  refine Or.inl ⟨by rfl, ?_⟩
                  intro w hSw
                  (try dsimp only at hSw)
                  go_simp
                  (try with_reducible rfl)
                try simp only [Act.put, List.getElem_toArray, List.getElem_cons_succ, List.getElem_cons_zero, List.setIfInBounds_toArray, List.set_cons_zero, List.set_cons_succ]
                refine wpAnyH_take (i := 17) (oi := ?oicx17) (v := ?vcx17) ?hicx17 (by kernel_rfl) (by kernel_rfl) (by kernel_rfl) ?hqcx17 ?hycx17 hHeld ?restcx17
                case hicx17 => exact rfl
                case hqcx17 => exact fun _ _ _ h => h
                case hycx17 =>
                  refine Or.inl ⟨by rfl, ?_⟩
                  intro w hSw
                  (try dsimp only at hSw)
                  go_simp
                  (try with_reducible rfl)
                try simp only [Act.put, List.getElem_toArray, List.getElem_cons_succ, List.getElem_cons_zero, List.setIfInBounds_toArray, List.set_cons_zero, List.set_cons_succ]
                refine wpAnyH_take (i := 18) (oi := ?oicx18) (v := undef) ?hicx18 (by kernel_rfl) (by kernel_rfl) (by kernel_rfl) ?hqcx18 ?hycx18 hHeld ?restcx18
                case hicx18 => exact rfl
                case hqcx18 => exact fun _ _ _ h => h
                case hycx18 => exact Or.inr ⟨by kernel_rfl, rfl⟩
                try simp only [Act.put, List.getElem_toArray, List.getElem_cons_succ, List.getElem_cons_zero, List.setIfInBounds_toArray, List.set_cons_zero, List.set_cons_succ]
                refine wpAnyH_take (i := 19) (oi := ?oicx19) (v := undef) ?hicx19 (by kernel_rfl) (by kernel_rfl) (by kernel_rfl) ?hqcx19 ?hycx19 hHeld ?restcx19
                case hicx19 => exact rfl
                case hqcx19 => exact fun _ _ _ h => h
                case hycx19 => exact Or.inr ⟨by kernel_rfl, rfl⟩
                try simp only [Act.put, List.getElem_toArray, List.getElem_cons_succ, List.getElem_cons_zero, List.setIfInBounds_toArray, List.set_cons_zero, List.set_cons_succ]
                refine wpAnyH_take (i := 20) (oi := ?oicx20) (v := undef) ?hicx20 (by kernel_rfl) (by kernel_rfl) (by kernel_rfl) ?hqcx20 ?hycx20 hHeld ?restcx20
                case hicx20 => exact rfl
                case hqcx20 => exact fun _ _ _ h => h
                case hycx20 => exact Or.inr ⟨by kernel_rfl, rfl⟩
                try simp only [Act.put, List.getElem_toArray, List.getElem_cons_succ, List.getElem_cons_zero, List.setIfInBounds_toArray, List.set_cons_zero, List.set_cons_succ]
                refine wpAnyH_take (i := 21) (oi := ?oicx21) (v := undef) ?hicx21 (by kernel_rfl) (by kernel_rfl) (by kernel_rfl) ?hqcx21 ?hycx21 hHeld ?restcx21
                case hicx21 => exact rfl
                case hqcx21 => exact fun _ _ _ h => h
                case hycx21 => exact Or.inr ⟨by kernel_rfl, rfl⟩
                try simp only [Act.put, List.getElem_toArray, List.getElem_cons_succ, List.getElem_cons_zero, List.setIfInBounds_toArray, List.set_cons_zero, List.set_cons_succ]
                refine wpAnyH_take (i := 22) (oi := ?oicx22) (v := undef) ?hicx22 (by kernel_rfl) (by kernel_rfl) (by kernel_rfl) ?hqcx22 ?hycx22 hHeld ?restcx22
                case hicx22 => exact rfl
                case hqcx22 => exact fun _ _ _ h => h
                case hycx22 => exact Or.inr ⟨by kernel_rfl, rfl⟩
                try simp only [Act.put, List.getElem_toArray, List.getElem_cons_succ, List.getElem_cons_zero, List.setIfInBounds_toArray, List.set_cons_zero, List.set_cons_succ]
                refine wpAnyH_take (i := 23) (oi := ?oicx23) (v := undef) ?hicx23 (by kernel_rfl) (by kernel_rfl) (by kernel_rfl) ?hqcx23 ?hycx23 hHeld ?restcx23
                case hicx23 => exact rfl
                case hqcx23 => exact fun _ _ _ h => h
                case hycx23 => exact Or.inr ⟨by kernel_rfl, rfl⟩
                try simp only [Act.put, List.getElem_toArray, List.getElem_cons_succ, List.getElem_cons_zero, List.setIfInBounds_toArray, List.set_cons_zero, List.set_cons_succ]
                refine wpAnyH_take (i := 24) (oi := ?oicx24) (v := undef) ?hicx24 (by kernel_rfl) (by kernel_rfl) (by kernel_rfl) ?hqcx24 ?hycx24 hHeld ?restcx24
                case hicx24 => exact rfl
                case hqcx24 => exact fun _ _ _ h => h
                case hycx24 => exact Or.inr ⟨by kernel_rfl, rfl⟩
                try simp only [Act.put, List.getElem_toArray, List.getElem_cons_succ, List.getElem_cons_zero, List.setIfInBounds_toArray, List.set_cons_zero, List.set_cons_succ]
                refine wpAnyH_take (i := 25) (oi := ?oicx25) (v := undef) ?hicx25 (by kernel_rfl) (by kernel_rfl) (by kernel_rfl) ?hqcx25 ?hycx25 hHeld ?restcx25
                case hicx25 => exact rfl
                case hqcx25 => exact fun _ _ _ h => h
                case hycx25 => exact Or.inr ⟨by kernel_rfl, rfl⟩
                try simp only [Act.put, List.getElem_toArray, List.getElem_cons_succ, List.getElem_cons_zero, List.setIfInBounds_toArray, List.set_cons_zero, List.set_cons_succ]
                refine wpAnyH_take (i := 26) (oi := ?oicx26) (v := undef) ?hicx26 (by kernel_rfl) (by kernel_rfl) (by kernel_rfl) ?hqcx26 ?hycx26 hHeld ?restcx26
                case hicx26 => exact rfl
                case hqcx26 => exact fun _ _ _ h => h
                case hycx26 => exact Or.inr ⟨by kernel_rfl, rfl⟩
                try simp only [Act.put, List.getElem_toArray, List.getElem_cons_succ, List.getElem_cons_zero, List.setIfInBounds_toArray, List.set_cons_zero, List.set_cons_succ]
                refine wpAnyH_take (i := 27) (oi := ?oicx27) (v := undef) ?hicx27 (by kernel_rfl) (by kernel_rfl) (by kernel_rfl) ?hqcx27 ?hycx27 hHeld ?restcx27
                case hicx27 => exact rfl
                case hqcx27 => exact fun _ _ _ h => h
                case hycx27 => exact Or.inr ⟨by kernel_rfl, rfl⟩
                try simp only [Act.put, List.getElem_toArray, List.getElem_cons_succ, List.getElem_cons_zero, List.setIfInBounds_toArray, List.set_cons_zero, List.set_cons_succ]
                refine wpAnyH_take (i := 28) (oi := ?oicx28) (v := undef) ?hicx28 (by kernel_rfl) (by kernel_rfl) (by kernel_rfl) ?hqcx28 ?hycx28 hHeld ?restcx28
                case hicx28 => exact rfl
                case hqcx28 => exact fun _ _ _ h => h
                case hycx28 => exact Or.inr ⟨by kernel_rfl, rfl⟩
                try simp only [Act.put, List.getElem_toArray, List.getElem_cons_succ, List.getElem_cons_zero, List.setIfInBounds_toArray, List.set_cons_zero, List.set_cons_succ]
                refine wpAnyH_take (i := 29) (oi := ?oicx29) (v := undef) ?hicx29 (by kernel_rfl) (by kernel_rfl) (by kernel_rfl) ?hqcx29 ?hycx29 hHeld ?restcx29
                case hicx29 => exact rfl
                case hqcx29 => exact fun _ _ _ h => h
                case hycx29 => exact Or.inr ⟨by kernel_rfl, rfl⟩
                try simp only [Act.put, List.getElem_toArray, List.getElem_cons_succ, List.getElem_cons_zero, List.setIfInBounds_toArray, List.set_cons_zero, List.set_cons_succ]
                refine wpAnyH_take (i := 30) (oi := ?oicx30) (v := ?vcx30) ?hicx30 (by kernel_rfl) (by kernel_rfl) (by kernel_rfl) ?hqcx30 ?hycx30 hHeld ?restcx30
                case hicx30 => exact rfl
                case hqcx30 => exact fun _ _ _ h => h
                case hycx30 =>
                  refine Or.inl ⟨by rfl, ?_⟩
                  intro w hSw
                  (try dsimp only at hSw)
                  go_simp
                  (try with_reducible rfl)
                try simp only [Act.put, List.getElem_toArray, List.getElem_cons_succ, List.getElem_cons_zero, List.setIfInBounds_toArray, List.set_cons_zero, List.set_cons_succ]
                refine wpAnyH_take (i := 31) (oi := ?oicx31) (v := ?vcx31) ?hicx31 (by kernel_rfl) (by kernel_rfl) (by kernel_rfl) ?hqcx31 ?hycx31 hHeld ?restcx31
                case hicx31 => exact rfl
                case hqcx31 => exact fun _ _ _ h => h
                case hycx31 =>
                  refine Or.inl ⟨by rfl, ?_⟩
                  intro w hSw
                  (try dsimp only at hSw)
                  go_simp
                  (try with_reducible rfl)
                try simp only [Act.put, List.getElem_toArray, List.getElem_cons_succ, List.getElem_cons_zero, List.setIfInBounds_toArray, List.set_cons_zero, List.set_cons_succ]
                refine wpAnyH_take (i := 32) (oi := ?oicx32) (v := ?vcx32) ?hicx32 (by kernel_rfl) (by kernel_rfl) (by kernel_rfl) ?hqcx32 ?hycx32 hHeld ?restcx32
                case hicx32 => exact rfl
                case hqcx32 => exact fun _ _ _ h => h
                case hycx32 =>
                  refine Or.inl ⟨by rfl, ?_⟩
                  intro w hSw
                  (try dsimp only at hSw)
                  go_simp
                  (try with_reducible rfl)
                try simp only [Act.put, List.getElem_toArray, List.getElem_cons_succ, List.getElem_cons_zero, List.setIfInBounds_toArray, List.set_cons_zero, List.set_cons_succ]
                refine wpAnyH_take (i := 33) (oi := ?oicx33) (v := ?vcx33) ?hicx33 (by kernel_rfl) (by kernel_rfl) (by kernel_rfl) ?hqcx33 ?hycx33 hHeld ?restcx33
                case hicx33 => exact rfl
                case hqcx33 => exact fun _ _ _ h => h
                case hycx33 =>
                  refine Or.inl ⟨by rfl, ?_⟩
                  intro w hSw
                  (try dsimp only at hSw)
                  go_simp
                  (try with_reducible rfl)
                try simp only [Act.put, List.getElem_toArray, List.getElem_cons_succ, List.getElem_cons_zero, List.setIfInBounds_toArray, List.set_cons_zero, List.set_cons_succ]
                refine wpAnyH_take (i := 34) (oi := ?oicx34) (v := ?vcx34) ?hicx34 (by kernel_rfl) (by kernel_rfl) (by kernel_rfl) ?hqcx34 ?hycx34 hHeld ?restcx34
                case hicx34 => exact rfl
                case hqcx34 => exact fun _ _ _ h => h
                case hycx34 =>
                  refine Or.inl ⟨by rfl, ?_⟩
                  intro w hSw
                  (try dsimp only at hSw)
                  go_simp
                  (try with_reducible rfl)
                try simp only [Act.put, List.getElem_toArray, List.getElem_cons_succ, List.getElem_cons_zero, List.setIfInBounds_toArray, List.set_cons_zero, List.set_cons_succ]
                refine wpAnyH_take (i := 35) (oi := ?oicx35) (v := ?vcx35) ?hicx35 (by kernel_rfl) (by kernel_rfl) (by kernel_rfl) ?hqcx35 ?hycx35 hHeld ?restcx35
                case hicx35 => exact rfl
                case hqcx35 => exact fun _ _ _ h => h
                case hycx35 =>
                  refine Or.inl ⟨by rfl, ?_⟩
                  intro w hSw
                  (try dsimp only at hSw)
                  go_simp
                  (try with_reducible rfl)
                try simp only [Act.put, List.getElem_toArray, List.getElem_cons_succ, List.getElem_cons_zero, List.setIfInBounds_toArray, List.set_cons_zero, List.set_cons_succ]
                refine wpAnyH_take (i := 36) (oi := ?oicx36) (v := ?vcx36) ?hicx36 (by kernel_rfl) (by kernel_rfl) (by kernel_rfl) ?hqcx36 ?hycx36 hHeld ?restcx36
                case hicx36 => exact rfl
                case hqcx36 => exact fun _ _ _ h => h
                case hycx36 =>
                  refine Or.inl ⟨by rfl, ?_⟩
                  intro w hSw
                  (try dsimp only at hSw)
                  go_simp
                  (try with_reducible rfl)
                try simp only [Act.put, List.getElem_toArray, List.getElem_cons_succ, List.getElem_cons_zero, List.setIfInBounds_toArray, List.set_cons_zero, List.set_cons_succ]
                refine wpAnyH_take (i := 37) (oi := ?oicx37) (v := ?vcx37) ?hicx37 (by kernel_rfl) (by kernel_rfl) (by kernel_rfl) ?hqcx37 ?hycx37 hHeld ?restcx37
                case hicx37 => exact rfl
                case hqcx37 => exact fun _ _ _ h => h
                case hycx37 =>
                  refine Or.inl ⟨by rfl, ?_⟩
                  intro w hSw
                  (try dsimp only at hSw)
                  go_simp
                  (try with_reducible rfl)
                try simp only [Act.put, List.getElem_toArray, List.getElem_cons_succ, List.getElem_cons_zero, List.setIfInBounds_toArray, List.set_cons_zero, List.set_cons_succ]
                refine wpAnyH_ready (rs := [38]) (by kernel_rfl) (by simp) ?_
                refine AllReadyH.cons (o := ?oocx38) ?hocx38 ?hkcx38 AllReadyH.nil
                case hocx38 => exact rfl
                intro K hK
                go_simp
                refine (HVL.out _).mono ?_
                rintro ex w3 ⟨rfl, hB3⟩
                have HB3 := Lib.hid (HB.out.drew.trans (hB3.mono HB.out.size))
                refine hK.out _ _ ?_ (fun hHeld => ?_)
                · exact ⟨(hB3.cell (p := ⟨b, _, none⟩) (show b < wr.drew.heap.size from hlb)).trans c0, (hB3.cell (p := ⟨b, _, none⟩) (show b < wr.drew.heap.size from hlb)).trans c1, (hB3.cell (p := ⟨b, _, none⟩) (show b < wr.drew.heap.size from hlb)).trans c2, (hB3.cell (p := ⟨b, _, none⟩) (show b < wr.drew.heap.size from hlb)).trans c3, (hB3.cell (p := ⟨b, _, none⟩) (show b < wr.drew.heap.size from hlb)).trans c4⟩
                clear hK K
                try simp only [Act.put, List.getElem_toArray, List.getElem_cons_succ, List.getElem_cons_zero, List.setIfInBounds_toArray, List.set_cons_zero, List.set_cons_succ]
                refine wpAnyH_take (i := 39) (oi := ?oicx39) (v := ?vcx39) ?hicx39 (by kernel_rfl) (by kernel_rfl) (by kernel_rfl) ?hqcx39 ?hycx39 hHeld ?restcx39
                case hicx39 => exact rfl
                case hqcx39 => exact fun _ _ _ h => h
                case hycx39 =>
                  refine Or.inl ⟨by rfl, ?_⟩
                  intro w hSw
                  (try dsimp only at hSw)
                  go_simp
                  (try with_reducible rfl)
                try simp only [Act.put, List.getElem_toArray, List.getElem_cons_succ, List.getElem_cons_zero, List.setIfInBounds_toArray, List.set_cons_zero, List.set_cons_succ]
                refine wpAnyH_take (i := 40) (oi := ?oicx40) (v := ?vcx40) ?hicx40 (by kernel_rfl) (by kernel_rfl) (by kernel_rfl) ?hqcx40 ?hycx40 hHeld ?restcx40
                case hicx40 => exact rfl
                case hqcx40 => exact fun _ _ _ h => h
                case hycx40 =>
                  refine Or.inl ⟨by rfl, ?_⟩
                  intro w hSw
                  (try dsimp only at hSw)
                  go_simp
                  (try with_reducible rfl)
                try simp only [Act.put, List.getElem_toArray, List.getElem_cons_succ, List.getElem_cons_zero, List.setIfInBounds_toArray, List.set_cons_zero, List.set_cons_succ]
                refine wpAnyH_done (by kernel_rfl) ?_ _
                go_wp2_with fail
                go_ret
                exact ⟨ret_int HR.out.symm, HB3.out⟩
              · have HV2 := Lib.hid (vxTo_step HV.out he (by rw [hbt, hl]; rfl) (fun q e' h => by omega))
                rw [hl] at HVL
                clear he hx hbt hl
                go_upto_region 6 with fail
                refine wp_region_held_drew (S := (fun w' => w'.cell? ⟨b, off, none⟩ = some (.int .i64 e.at_) ∧ w'.cell? ⟨b, off + 1, none⟩ = some (.int .i64 e.ln.op) ∧ w'.cell? ⟨b, off + 2, none⟩ = some (.int .i64 e.ln.to) ∧ w'.cell? ⟨b, off + 3, none⟩ = some (.int .i64 e.ln.a) ∧ w'.cell? ⟨b, off + 4, none⟩ = some (.int .i64 e.ln.b))) (by kernel_rfl) ?_ (fun hHeld => ?_)
                · exact ⟨c0, c1, c2, c3, c4⟩
                refine wpAnyH_take (i := 0) (oi := ?oicy00) (v := ?vcy00) ?hicy00 (by kernel_rfl) (by kernel_rfl) (by kernel_rfl) ?hqcy00 ?hycy00 hHeld ?restcy00
                case hicy00 => exact rfl
                case hqcy00 => exact fun _ _ _ h => h
                case hycy00 =>
                  refine Or.inl ⟨by rfl, ?_⟩
                  intro w hSw
                  (try dsimp only at hSw)
                  go_simp
                  (try with_reducible rfl)
                try simp only [Act.put, List.getElem_toArray, List.getElem_cons_succ, List.getElem_cons_zero, List.setIfInBounds_toArray, List.set_cons_zero, List.set_cons_succ]
                refine wpAnyH_take (i := 1) (oi := ?oicy01) (v := ?vcy01) ?hicy01 (by kernel_rfl) (by kernel_rfl) (by kernel_rfl) ?hqcy01 ?hycy01 hHeld ?restcy01
                case hicy01 => exact rfl
                case hqcy01 => exact fun _ _ _ h => h
                case hycy01 =>
                  refine Or.inl ⟨by rfl, ?_⟩
                  intro w hSw
                  (try dsimp only at hSw)
                  go_simp
                  (try with_reducible rfl)
                try simp only [Act.put, List.getElem_toArray, List.getElem_cons_succ, List.getElem_cons_zero, List.setIfInBounds_toArray, List.set_cons_zero, List.set_cons_succ]
                refine wpAnyH_take (i := 2) (oi := ?oicy02) (v := ?vcy02) ?hicy02 (by kernel_rfl) (by kernel_rfl) (by kernel_rfl) ?hqcy02 ?hycy02 hHeld ?restcy02
                case hicy02 => exact rfl
                case hqcy02 => exact fun _ _ _ h => h
                case hycy02 =>
                  refine Or.inl ⟨by rfl, ?_⟩
                  intro w hSw
                  (try dsimp only at hSw)
                  go_simp
                  (try with_reducible rfl)
                try simp only [Act.put, List.getElem_toArray, List.getElem_cons_succ, List.getElem_cons_zero, List.setIfInBounds_toArray, List.set_cons_zero, List.set_cons_succ]
                refine wpAnyH_take (i := 3) (oi := ?oicy03) (v := ?vcy03) ?hicy03 (by kernel_rfl) (by kernel_rfl) (by kernel_rfl) ?hqcy03 ?hycy03 hHeld ?restcy03
                case hicy03 => exact rfl
                case hqcy03 => exact fun _ _ _ h => h
                case hycy03 =>
                  refine Or.inl ⟨by rfl, ?_⟩
                  intro w hSw
                  (try dsimp only at hSw)
                  go_simp
                  (try with_reducible rfl)
                try simp only [Act.put, List.getElem_toArray, List.getElem_cons_succ, List.getElem_cons_zero, List.setIfInBounds_toArray, List.set_cons_zero, List.set_cons_succ]
                refine wpAnyH_take (i := 4) (oi := ?oicy04) (v := ?vcy04) ?hicy04 (by kernel_rfl) (by kernel_rfl) (by kernel_rfl) ?hqcy04 ?hycy04 hHeld ?restcy04
                case hicy04 => exact rfl
                case hqcy04 => exact fun _ _ _ h => h
                case hycy04 =>
                  refine Or.inl ⟨by rfl, ?_⟩
                  intro w hSw
                  (try dsimp only at hSw)
                  go_simp
                  (try with_reducible rfl)
                try simp only [Act.put, List.getElem_toArray, List.getElem_cons_succ, List.getElem_cons_zero, List.setIfInBounds_toArray, List.set_cons_zero, List.set_cons_succ]
                refine wpAnyH_take (i := 5) (oi := ?oicy05) (v := ?vcy05) ?hicy05 (by kernel_rfl) (by kernel_rfl) (by kernel_rfl) ?hqcy05 ?hycy05 hHeld ?restcy05
                case hicy05 => exact rfl
                case hqcy05 => exact fun _ _ _ h => h
                case hycy05 =>
                  refine Or.inl ⟨by rfl, ?_⟩
                  intro w hSw
                  (try dsimp only at hSw)
                  go_simp
                  (try with_reducible rfl)
                try simp only [Act.put, List.getElem_toArray, List.getElem_cons_succ, List.getElem_cons_zero, List.setIfInBounds_toArray, List.set_cons_zero, List.set_cons_succ]
                refine wpAnyH_take (i := 6) (oi := ?oicy06) (v := ?vcy06) ?hicy06 (by kernel_rfl) (by kernel_rfl) (by kernel_rfl) ?hqcy06 ?hycy06 hHeld ?restcy06
                case hicy06 => exact rfl
                case hqcy06 => exact fun _ _ _ h => h
                case hycy06 =>
                  refine Or.inl ⟨by rfl, ?_⟩
                  intro w hSw
                  (try dsimp only at hSw)
                  go_simp
                  (try with_reducible rfl)
                try simp only [Act.put, List.getElem_toArray, List.getElem_cons_succ, List.getElem_cons_zero, List.setIfInBounds_toArray, List.set_cons_zero, List.set_cons_succ]
                refine wpAnyH_take (i := 7) (oi := ?oicy07) (v := ?vcy07) ?hicy07 (by kernel_rfl) (by kernel_rfl) (by kernel_rfl) ?hqcy07 ?hycy07 hHeld ?restcy07
                case hicy07 => exact rfl
                case hqcy07 => exact fun _ _ _ h => h
                case hycy07 =>
                  refine Or.inl ⟨by rfl, ?_⟩
                  intro w hSw
                  (try dsimp only at hSw)
                  go_simp
                  (try with_reducible rfl)
                try simp only [Act.put, List.getElem_toArray, List.getElem_cons_succ, List.getElem_cons_zero, List.setIfInBounds_toArray, List.set_cons_zero, List.set_cons_succ]
                refine wpAnyH_take (i := 8) (oi := ?oicy08) (v := ?vcy08) ?hicy08 (by kernel_rfl) (by kernel_rfl) (by kernel_rfl) ?hqcy08 ?hycy08 hHeld ?restcy08
                case hicy08 => exact rfl
                case hqcy08 => exact fun _ _ _ h => h
                case hycy08 =>
                  refine Or.inl ⟨by rfl, ?_⟩
                  intro w hSw
                  (try dsimp only at hSw)
                  go_simp
                  (try with_reducible rfl)
                try simp only [Act.put, List.getElem_toArray, List.getElem_cons_succ, List.getElem_cons_zero, List.setIfInBounds_toArray, List.set_cons_zero, List.set_cons_succ]
                refine wpAnyH_take (i := 9) (oi := ?oicy09) (v := ?vcy09) ?hicy09 (by kernel_rfl) (by kernel_rfl) (by kernel_rfl) ?hqcy09 ?hycy09 hHeld ?restcy09
                case hicy09 => exact rfl
                case hqcy09 => exact fun _ _ _ h => h
                case hycy09 =>
                  refine Or.inl ⟨by rfl, ?_⟩
                  intro w hSw
                  (try dsimp only at hSw)
                  go_simp
                  (try with_reducible rfl)
                try simp only [Act.put, List.getElem_toArray, List.getElem_cons_succ, List.getElem_cons_zero, List.setIfInBounds_toArray, List.set_cons_zero, List.set_cons_succ]
                refine wpAnyH_take (i := 10) (oi := ?oicy10) (v := ?vcy10) ?hicy10 (by kernel_rfl) (by kernel_rfl) (by kernel_rfl) ?hqcy10 ?hycy10 hHeld ?restcy10
                case hicy10 => exact rfl
                case hqcy10 => exact fun _ _ _ h => h
                case hycy10 =>
                  refine Or.inl ⟨by rfl, ?_⟩
                  intro w hSw
                  (try dsimp only at hSw)
                  go_simp
                  (try with_reducible rfl)
                try simp only [Act.put, List.getElem_toArray, List.getElem_cons_succ, List.getElem_cons_zero, List.setIfInBounds_toArray, List.set_cons_zero, List.set_cons_succ]
                refine wpAnyH_take (i := 11) (oi := ?oicy11) (v := ?vcy11) ?hicy11 (by kernel_rfl) (by kernel_rfl) (by kernel_rfl) ?hqcy11 ?hycy11 hHeld ?restcy11
                case hicy11 => exact rfl
                case hqcy11 => exact fun _ _ _ h => h
                case hycy11 =>
                  refine Or.inl ⟨by rfl, ?_⟩
                  intro w hSw
                  (try dsimp only at hSw)
                  go_simp
                  (try with_reducible rfl)
                try simp only [Act.put, List.getElem_toArray, List.getElem_cons_succ, List.getElem_cons_zero, List.setIfInBounds_toArray, List.set_cons_zero, List.set_cons_succ]
                refine wpAnyH_take (i := 12) (oi := ?oicy12) (v := ?vcy12) ?hicy12 (by kernel_rfl) (by kernel_rfl) (by kernel_rfl) ?hqcy12 ?hycy12 hHeld ?restcy12
                case hicy12 => exact rfl
                case hqcy12 => exact fun _ _ _ h => h
                case hycy12 =>
                  refine Or.inl ⟨by rfl, ?_⟩
                  intro w hSw
                  (try dsimp only at hSw)
                  go_simp
                  (try with_reducible rfl)
                try simp only [Act.put, List.getElem_toArray, List.getElem_cons_succ, List.getElem_cons_zero, List.setIfInBounds_toArray, List.set_cons_zero, List.set_cons_succ]
                refine wpAnyH_take (i := 13) (oi := ?oicy13) (v := ?vcy13) ?hicy13 (by kernel_rfl) (by kernel_rfl) (by kernel_rfl) ?hqcy13 ?hycy13 hHeld ?restcy13
                case hicy13 => exact rfl
                case hqcy13 => exact fun _ _ _ h => h
                case hycy13 =>
                  refine Or.inl ⟨by rfl, ?_⟩
                  intro w hSw
                  (try dsimp only at hSw)
                  go_simp
                  (try with_reducible rfl)
                try simp only [Act.put, List.getElem_toArray, List.getElem_cons_succ, List.getElem_cons_zero, List.setIfInBounds_toArray, List.set_cons_zero, List.set_cons_succ]
                refine wpAnyH_take (i := 14) (oi := ?oicy14) (v := ?vcy14) ?hicy14 (by kernel_rfl) (by kernel_rfl) (by kernel_rfl) ?hqcy14 ?hycy14 hHeld ?restcy14
                case hicy14 => exact rfl
                case hqcy14 => exact fun _ _ _ h => h
                case hycy14 =>
                  refine Or.inl ⟨by rfl, ?_⟩
                  intro w hSw
                  (try dsimp only at hSw)
                  go_simp
                  (try with_reducible rfl)
                try simp only [Act.put, List.getElem_toArray, List.getElem_cons_succ, List.getElem_cons_zero, List.setIfInBounds_toArray, List.set_cons_zero, List.set_cons_succ]
                refine wpAnyH_take (i := 15) (oi := ?oicy15) (v := ?vcy15) ?hicy15 (by kernel_rfl) (by kernel_rfl) (by kernel_rfl) ?hqcy15 ?hycy15 hHeld ?restcy15
                case hicy15 => exact rfl
                case hqcy15 => exact fun _ _ _ h => h
                case hycy15 =>
                  refine Or.inl ⟨by rfl, ?_⟩
                  intro w hSw
                  (try dsimp only at hSw)
                  go_simp
                  (try with_reducible rfl)
                try simp only [Act.put, List.getElem_toArray, List.getElem_cons_succ, List.getElem_cons_zero, List.setIfInBounds_toArray, List.set_cons_zero, List.set_cons_succ]
                refine wpAnyH_take (i := 16) (oi := ?oicy16) (v := ?vcy16) ?hicy16 (by kernel_rfl) (by kernel_rfl) (by kernel_rfl) ?hqcy16 ?hycy16 hHeld ?restcy16
                case hicy16 => exact rfl
                case hqcy16 => exact fun _ _ _ h => h
                case hycy16 =>
                  refine Or.inl ⟨by rfl, ?_⟩
                  intro w hSw
                  (try dsimp only at hSw)
                  go_simp
                  (try with_reducible rfl)
                try simp only [Act.put, List.getElem_toArray, List.getElem_cons_succ, List.getElem_cons_zero, List.setIfInBounds_toArray, List.set_cons_zero, List.set_cons_succ]
                refine wpAnyH_take (i := 17) (oi := ?oicy17) (v := ?vcy17) ?hicy17 (by kernel_rfl) (by kernel_rfl) (by kernel_rfl) ?hqcy17 ?hycy17 hHeld ?restcy17
                case hicy17 => exact rfl
                case hqcy17 => exact fun _ _ _ h => h
                case hycy17 =>
                  refine Or.inl ⟨by rfl, ?_⟩
                  intro w hSw
                  (try dsimp only at hSw)
                  go_simp
                  (try with_reducible rfl)
                try simp only [Act.put, List.getElem_toArray, List.getElem_cons_succ, List.getElem_cons_zero, List.setIfInBounds_toArray, List.set_cons_zero, List.set_cons_succ]
                refine wpAnyH_take (i := 18) (oi := ?oicy18) (v := undef) ?hicy18 (by kernel_rfl) (by kernel_rfl) (by kernel_rfl) ?hqcy18 ?hycy18 hHeld ?restcy18
                case hicy18 => exact rfl
                case hqcy18 => exact fun _ _ _ h => h
                case hycy18 => exact Or.inr ⟨by kernel_rfl, rfl⟩
                try simp only [Act.put, List.getElem_toArray, List.getElem_cons_succ, List.getElem_cons_zero, List.setIfInBounds_toArray, List.set_cons_zero, List.set_cons_succ]
                refine wpAnyH_take (i := 19) (oi := ?oicy19) (v := undef) ?hicy19 (by kernel_rfl) (by kernel_rfl) (by kernel_rfl) ?hqcy19 ?hycy19 hHeld ?restcy19
                case hicy19 => exact rfl
                case hqcy19 => exact fun _ _ _ h => h
                case hycy19 => exact Or.inr ⟨by kernel_rfl, rfl⟩
                try simp only [Act.put, List.getElem_toArray, List.getElem_cons_succ, List.getElem_cons_zero, List.setIfInBounds_toArray, List.set_cons_zero, List.set_cons_succ]
                refine wpAnyH_take (i := 20) (oi := ?oicy20) (v := undef) ?hicy20 (by kernel_rfl) (by kernel_rfl) (by kernel_rfl) ?hqcy20 ?hycy20 hHeld ?restcy20
                case hicy20 => exact rfl
                case hqcy20 => exact fun _ _ _ h => h
                case hycy20 => exact Or.inr ⟨by kernel_rfl, rfl⟩
                try simp only [Act.put, List.getElem_toArray, List.getElem_cons_succ, List.getElem_cons_zero, List.setIfInBounds_toArray, List.set_cons_zero, List.set_cons_succ]
                refine wpAnyH_take (i := 21) (oi := ?oicy21) (v := undef) ?hicy21 (by kernel_rfl) (by kernel_rfl) (by kernel_rfl) ?hqcy21 ?hycy21 hHeld ?restcy21
                case hicy21 => exact rfl
                case hqcy21 => exact fun _ _ _ h => h
                case hycy21 => exact Or.inr ⟨by kernel_rfl, rfl⟩
                try simp only [Act.put, List.getElem_toArray, List.getElem_cons_succ, List.getElem_cons_zero, List.setIfInBounds_toArray, List.set_cons_zero, List.set_cons_succ]
                refine wpAnyH_take (i := 22) (oi := ?oicy22) (v := undef) ?hicy22 (by kernel_rfl) (by kernel_rfl) (by kernel_rfl) ?hqcy22 ?hycy22 hHeld ?restcy22
                case hicy22 => exact rfl
                case hqcy22 => exact fun _ _ _ h => h
                case hycy22 => exact Or.inr ⟨by kernel_rfl, rfl⟩
                try simp only [Act.put, List.getElem_toArray, List.getElem_cons_succ, List.getElem_cons_zero, List.setIfInBounds_toArray, List.set_cons_zero, List.set_cons_succ]
                refine wpAnyH_take (i := 23) (oi := ?oicy23) (v := undef) ?hicy23 (by kernel_rfl) (by kernel_rfl) (by kernel_rfl) ?hqcy23 ?hycy23 hHeld ?restcy23
                case hicy23 => exact rfl
                case hqcy23 => exact fun _ _ _ h => h
                case hycy23 => exact Or.inr ⟨by kernel_rfl, rfl⟩
                try simp only [Act.put, List.getElem_toArray, List.getElem_cons_succ, List.getElem_cons_zero, List.setIfInBounds_toArray, List.set_cons_zero, List.set_cons_succ]
                refine wpAnyH_take (i := 24) (oi := ?oicy24) (v := undef) ?hicy24 (by kernel_rfl) (by kernel_rfl) (by kernel_rfl) ?hqcy24 ?hycy24 hHeld ?restcy24
                case hicy24 => exact rfl
                case hqcy24 => exact fun _ _ _ h => h
                case hycy24 => exact Or.inr ⟨by kernel_rfl, rfl⟩
                try simp only [Act.put, List.getElem_toArray, List.getElem_cons_succ, List.getElem_cons_zero, List.setIfInBounds_toArray, List.set_cons_zero, List.set_cons_succ]
                refine wpAnyH_take (i := 25) (oi := ?oicy25) (v := undef) ?hicy25 (by kernel_rfl) (by kernel_rfl) (by kernel_rfl) ?hqcy25 ?hycy25 hHeld ?restcy25
                case hicy25 => exact rfl
                case hqcy25 => exact fun _ _ _ h => h
                case hycy25 => exact Or.inr ⟨by kernel_rfl, rfl⟩
                try simp only [Act.put, List.getElem_toArray, List.getElem_cons_succ, List.getElem_cons_zero, List.setIfInBounds_toArray, List.set_cons_zero, List.set_cons_succ]
                refine wpAnyH_take (i := 26) (oi := ?oicy26) (v := undef) ?hicy26 (by kernel_rfl) (by kernel_rfl) (by kernel_rfl) ?hqcy26 ?hycy26 hHeld ?restcy26
                case hicy26 => exact rfl
                case hqcy26 => exact fun _ _ _ h => h
                case hycy26 => exact Or.inr ⟨by kernel_rfl, rfl⟩
                try simp only [Act.put, List.getElem_toArray, List.getElem_cons_succ, List.getElem_cons_zero, List.setIfInBounds_toArray, List.set_cons_zero, List.set_cons_succ]
                refine wpAnyH_take (i := 27) (oi := ?oicy27) (v := undef) ?hicy27 (by kernel_rfl) (by kernel_rfl) (by kernel_rfl) ?hqcy27 ?hycy27 hHeld ?restcy27
                case hicy27 => exact rfl
                case hqcy27 => exact fun _ _ _ h => h
                case hycy27 => exact Or.inr ⟨by kernel_rfl, rfl⟩
                try simp only [Act.put, List.getElem_toArray, List.getElem_cons_succ, List.getElem_cons_zero, List.setIfInBounds_toArray, List.set_cons_zero, List.set_cons_succ]
                refine wpAnyH_take (i := 28) (oi := ?oicy28) (v := undef) ?hicy28 (by kernel_rfl) (by kernel_rfl) (by kernel_rfl) ?hqcy28 ?hycy28 hHeld ?restcy28
                case hicy28 => exact rfl
                case hqcy28 => exact fun _ _ _ h => h
                case hycy28 => exact Or.inr ⟨by kernel_rfl, rfl⟩
                try simp only [Act.put, List.getElem_toArray, List.getElem_cons_succ, List.getElem_cons_zero, List.setIfInBounds_toArray, List.set_cons_zero, List.set_cons_succ]
                refine wpAnyH_take (i := 29) (oi := ?oicy29) (v := undef) ?hicy29 (by kernel_rfl) (by kernel_rfl) (by kernel_rfl) ?hqcy29 ?hycy29 hHeld ?restcy29
                case hicy29 => exact rfl
                case hqcy29 => exact fun _ _ _ h => h
                case hycy29 => exact Or.inr ⟨by kernel_rfl, rfl⟩
                try simp only [Act.put, List.getElem_toArray, List.getElem_cons_succ, List.getElem_cons_zero, List.setIfInBounds_toArray, List.set_cons_zero, List.set_cons_succ]
                refine wpAnyH_take (i := 30) (oi := ?oicy30) (v := ?vcy30) ?hicy30 (by kernel_rfl) (by kernel_rfl) (by kernel_rfl) ?hqcy30 ?hycy30 hHeld ?restcy30
                case hicy30 => exact rfl
                case hqcy30 => exact fun _ _ _ h => h
                case hycy30 =>
                  refine Or.inl ⟨by rfl, ?_⟩
                  intro w hSw
                  (try dsimp only at hSw)
                  go_simp
                  (try with_reducible rfl)
                try simp only [Act.put, List.getElem_toArray, List.getElem_cons_succ, List.getElem_cons_zero, List.setIfInBounds_toArray, List.set_cons_zero, List.set_cons_succ]
                refine wpAnyH_take (i := 31) (oi := ?oicy31) (v := ?vcy31) ?hicy31 (by kernel_rfl) (by kernel_rfl) (by kernel_rfl) ?hqcy31 ?hycy31 hHeld ?restcy31
                case hicy31 => exact rfl
                case hqcy31 => exact fun _ _ _ h => h
                case hycy31 =>
                  refine Or.inl ⟨by rfl, ?_⟩
                  intro w hSw
                  (try dsimp only at hSw)
                  go_simp
                  (try with_reducible rfl)
                try simp only [Act.put, List.getElem_toArray, List.getElem_cons_succ, List.getElem_cons_zero, List.setIfInBounds_toArray, List.set_cons_zero, List.set_cons_succ]
                refine wpAnyH_take (i := 32) (oi := ?oicy32) (v := ?vcy32) ?hicy32 (by kernel_rfl) (by kernel_rfl) (by kernel_rfl) ?hqcy32 ?hycy32 hHeld ?restcy32
                case hicy32 => exact rfl
                case hqcy32 => exact fun _ _ _ h => h
                case hycy32 =>
                  refine Or.inl ⟨by rfl, ?_⟩
                  intro w hSw
                  (try dsimp only at hSw)
                  go_simp
                  (try with_reducible rfl)
                try simp only [Act.put, List.getElem_toArray, List.getElem_cons_succ, List.getElem_cons_zero, List.setIfInBounds_toArray, List.set_cons_zero, List.set_cons_succ]
                refine wpAnyH_take (i := 33) (oi := ?oicy33) (v := ?vcy33) ?hicy33 (by kernel_rfl) (by kernel_rfl) (by kernel_rfl) ?hqcy33 ?hycy33 hHeld ?restcy33
                case hicy33 => exact rfl
                case hqcy33 => exact fun _ _ _ h => h
                case hycy33 =>
                  refine Or.inl ⟨by rfl, ?_⟩
                  intro w hSw
                  (try dsimp only at hSw)
                  go_simp
                  (try with_reducible rfl)
                try simp only [Act.put, List.getElem_toArray, List.getElem_cons_succ, List.getElem_cons_zero, List.setIfInBounds_toArray, List.set_cons_zero, List.set_cons_succ]
                refine wpAnyH_take (i := 34) (oi := ?oicy34) (v := ?vcy34) ?hicy34 (by kernel_rfl) (by kernel_rfl) (by kernel_rfl) ?hqcy34 ?hycy34 hHeld ?restcy34
                case hicy34 => exact rfl
                case hqcy34 => exact fun _ _ _ h => h
                case hycy34 =>
                  refine Or.inl ⟨by rfl, ?_⟩
                  intro w hSw
                  (try dsimp only at hSw)
                  go_simp
                  (try with_reducible rfl)
                try simp only [Act.put, List.getElem_toArray, List.getElem_cons_succ, List.getElem_cons_zero, List.setIfInBounds_toArray, List.set_cons_zero, List.set_cons_succ]
                refine wpAnyH_take (i := 35) (oi := ?oicy35) (v := ?vcy35) ?hicy35 (by kernel_rfl) (by kernel_rfl) (by kernel_rfl) ?hqcy35 ?hycy35 hHeld ?restcy35
                case hicy35 => exact rfl
                case hqcy35 => exact fun _ _ _ h => h
                case hycy35 =>
                  refine Or.inl ⟨by rfl, ?_⟩
                  intro w hSw
                  (try dsimp only at hSw)
                  go_simp
                  (try with_reducible rfl)
                try simp only [Act.put, List.getElem_toArray, List.getElem_cons_succ, List.getElem_cons_zero, List.setIfInBounds_toArray, List.set_cons_zero, List.set_cons_succ]
                refine wpAnyH_take (i := 36) (oi := ?oicy36) (v := ?vcy36) ?hicy36 (by kernel_rfl) (by kernel_rfl) (by kernel_rfl) ?hqcy36 ?hycy36 hHeld ?restcy36
                case hicy36 => exact rfl
                case hqcy36 => exact fun _ _ _ h => h
                case hycy36 =>
                  refine Or.inl ⟨by rfl, ?_⟩
                  intro w hSw
                  (try dsimp only at hSw)
                  go_simp
                  (try with_reducible rfl)
                try simp only [Act.put, List.getElem_toArray, List.getElem_cons_succ, List.getElem_cons_zero, List.setIfInBounds_toArray, List.set_cons_zero, List.set_cons_succ]
                refine wpAnyH_take (i := 37) (oi := ?oicy37) (v := ?vcy37) ?hicy37 (by kernel_rfl) (by kernel_rfl) (by kernel_rfl) ?hqcy37 ?hycy37 hHeld ?restcy37
                case hicy37 => exact rfl
                case hqcy37 => exact fun _ _ _ h => h
                case hycy37 =>
                  refine Or.inl ⟨by rfl, ?_⟩
                  intro w hSw
                  (try dsimp only at hSw)
                  go_simp
                  (try with_reducible rfl)
                try simp only [Act.put, List.getElem_toArray, List.getElem_cons_succ, List.getElem_cons_zero, List.setIfInBounds_toArray, List.set_cons_zero, List.set_cons_succ]
                refine wpAnyH_ready (rs := [38]) (by kernel_rfl) (by simp) ?_
                refine AllReadyH.cons (o := ?oocy38) ?hocy38 ?hkcy38 AllReadyH.nil
                case hocy38 => exact rfl
                intro K hK
                go_simp
                refine (HVL.out _).mono ?_
                rintro ex w3 ⟨rfl, hB3⟩
                have HB3 := Lib.hid (HB.out.drew.trans (hB3.mono HB.out.size))
                refine hK.out _ _ ?_ (fun hHeld => ?_)
                · exact ⟨(hB3.cell (p := ⟨b, _, none⟩) (show b < wr.drew.heap.size from hlb)).trans c0, (hB3.cell (p := ⟨b, _, none⟩) (show b < wr.drew.heap.size from hlb)).trans c1, (hB3.cell (p := ⟨b, _, none⟩) (show b < wr.drew.heap.size from hlb)).trans c2, (hB3.cell (p := ⟨b, _, none⟩) (show b < wr.drew.heap.size from hlb)).trans c3, (hB3.cell (p := ⟨b, _, none⟩) (show b < wr.drew.heap.size from hlb)).trans c4⟩
                clear hK K
                try simp only [Act.put, List.getElem_toArray, List.getElem_cons_succ, List.getElem_cons_zero, List.setIfInBounds_toArray, List.set_cons_zero, List.set_cons_succ]
                refine wpAnyH_take (i := 39) (oi := ?oicy39) (v := ?vcy39) ?hicy39 (by kernel_rfl) (by kernel_rfl) (by kernel_rfl) ?hqcy39 ?hycy39 hHeld ?restcy39
                case hicy39 => exact rfl
                case hqcy39 => exact fun _ _ _ h => h
                case hycy39 =>
                  refine Or.inl ⟨by rfl, ?_⟩
                  intro w hSw
                  (try dsimp only at hSw)
                  go_simp
                  (try with_reducible rfl)
                try simp only [Act.put, List.getElem_toArray, List.getElem_cons_succ, List.getElem_cons_zero, List.setIfInBounds_toArray, List.set_cons_zero, List.set_cons_succ]
                refine wpAnyH_take (i := 40) (oi := ?oicy40) (v := ?vcy40) ?hicy40 (by kernel_rfl) (by kernel_rfl) (by kernel_rfl) ?hqcy40 ?hycy40 hHeld ?restcy40
                case hicy40 => exact rfl
                case hqcy40 => exact fun _ _ _ h => h
                case hycy40 =>
                  refine Or.inl ⟨by rfl, ?_⟩
                  intro w hSw
                  (try dsimp only at hSw)
                  go_simp
                  (try with_reducible rfl)
                try simp only [Act.put, List.getElem_toArray, List.getElem_cons_succ, List.getElem_cons_zero, List.setIfInBounds_toArray, List.set_cons_zero, List.set_cons_succ]
                refine wpAnyH_done (by kernel_rfl) ?_ _
                go_wp2_with fail
                go_roundw
                case rel => exact ⟨0 + 1, by omega, by go_num, HV2.out, HB3.out⟩
                case measure => simp [intOf]; omega
            · obtain ⟨q, hq⟩ : ∃ q, k = q + 1 := ⟨k - 1, by omega⟩
              obtain ⟨b', off', e', heq, hlb', he', d0, d1, d2, d3, d4⟩ := (hx.below HB.out (Nat.le_refl _)).at_ (show q < xs.length by omega)
              injection heq with heq
              injection heq with e1 e2
              subst e1 e2
              have HQ := Lib.hid hq
              have kp : (0 : Int) < (k : Int) := by omega
              have kp2 : 0 < k := by omega
              have hw : IntKind.i64.wrap ((k : Int) - 1) = (k : Int) - 1 := IntWalk.i64_in _ (by omega)
              have kp3 : 1 ≤ k := by omega
              have kn : (0 : Int) ≤ (k : Int) - 1 := by omega
              have kn1 : (1 : Int) ≤ (k : Int) := by omega
              have kl : (k : Int) - 1 < (xs.length : Int) := by omega
              rw [show q = k - 1 by omega] at d0 he'
              clear hq hk0
              by_cases hord : e.at_ ≤ e'.at_
              · have HR := Lib.hid (vx_row h4 he' (by rw [show k - 1 + 1 = k by omega]; exact he) hord)
                clear he he' hx hbt
                go_upto_region 6 with fail
                refine wp_region_held_drew (S := (fun w' => w'.cell? ⟨b, off + k * 5, none⟩ = some (.int .i64 e.at_) ∧ w'.cell? ⟨b, off + k * 5 + 1, none⟩ = some (.int .i64 e.ln.op) ∧ w'.cell? ⟨b, off + k * 5 + 2, none⟩ = some (.int .i64 e.ln.to) ∧ w'.cell? ⟨b, off + k * 5 + 3, none⟩ = some (.int .i64 e.ln.a) ∧ w'.cell? ⟨b, off + k * 5 + 4, none⟩ = some (.int .i64 e.ln.b) ∧ w'.cell? ⟨b, off + (k - 1) * 5, none⟩ = some (.int .i64 e'.at_))) (by kernel_rfl) ?_ (fun hHeld => ?_)
                · exact ⟨c0, c1, c2, c3, c4, d0⟩
                refine wpAnyH_take (i := 0) (oi := ?oid00) (v := ?vd00) ?hid00 (by kernel_rfl) (by kernel_rfl) (by kernel_rfl) ?hqd00 ?hyd00 hHeld ?restd00
                case hid00 => exact rfl
                case hqd00 => exact fun _ _ _ h => h
                case hyd00 =>
                  refine Or.inl ⟨by rfl, ?_⟩
                  intro w hSw
                  (try dsimp only at hSw)
                  go_simp
                  (try with_reducible rfl)
                try simp only [Act.put, List.getElem_toArray, List.getElem_cons_succ, List.getElem_cons_zero, List.setIfInBounds_toArray, List.set_cons_zero, List.set_cons_succ]
                refine wpAnyH_take (i := 1) (oi := ?oid01) (v := ?vd01) ?hid01 (by kernel_rfl) (by kernel_rfl) (by kernel_rfl) ?hqd01 ?hyd01 hHeld ?restd01
                case hid01 => exact rfl
                case hqd01 => exact fun _ _ _ h => h
                case hyd01 =>
                  refine Or.inl ⟨by rfl, ?_⟩
                  intro w hSw
                  (try dsimp only at hSw)
                  go_simp
                  (try with_reducible rfl)
                try simp only [Act.put, List.getElem_toArray, List.getElem_cons_succ, List.getElem_cons_zero, List.setIfInBounds_toArray, List.set_cons_zero, List.set_cons_succ]
                refine wpAnyH_take (i := 2) (oi := ?oid02) (v := ?vd02) ?hid02 (by kernel_rfl) (by kernel_rfl) (by kernel_rfl) ?hqd02 ?hyd02 hHeld ?restd02
                case hid02 => exact rfl
                case hqd02 => exact fun _ _ _ h => h
                case hyd02 =>
                  refine Or.inl ⟨by rfl, ?_⟩
                  intro w hSw
                  (try dsimp only at hSw)
                  go_simp
                  (try with_reducible rfl)
                try simp only [Act.put, List.getElem_toArray, List.getElem_cons_succ, List.getElem_cons_zero, List.setIfInBounds_toArray, List.set_cons_zero, List.set_cons_succ]
                refine wpAnyH_take (i := 3) (oi := ?oid03) (v := ?vd03) ?hid03 (by kernel_rfl) (by kernel_rfl) (by kernel_rfl) ?hqd03 ?hyd03 hHeld ?restd03
                case hid03 => exact rfl
                case hqd03 => exact fun _ _ _ h => h
                case hyd03 =>
                  refine Or.inl ⟨by rfl, ?_⟩
                  intro w hSw
                  (try dsimp only at hSw)
                  go_simp
                  (try with_reducible rfl)
                try simp only [Act.put, List.getElem_toArray, List.getElem_cons_succ, List.getElem_cons_zero, List.setIfInBounds_toArray, List.set_cons_zero, List.set_cons_succ]
                refine wpAnyH_take (i := 4) (oi := ?oid04) (v := ?vd04) ?hid04 (by kernel_rfl) (by kernel_rfl) (by kernel_rfl) ?hqd04 ?hyd04 hHeld ?restd04
                case hid04 => exact rfl
                case hqd04 => exact fun _ _ _ h => h
                case hyd04 =>
                  refine Or.inl ⟨by rfl, ?_⟩
                  intro w hSw
                  (try dsimp only at hSw)
                  go_simp
                  (try with_reducible rfl)
                try simp only [Act.put, List.getElem_toArray, List.getElem_cons_succ, List.getElem_cons_zero, List.setIfInBounds_toArray, List.set_cons_zero, List.set_cons_succ]
                refine wpAnyH_take (i := 5) (oi := ?oid05) (v := ?vd05) ?hid05 (by kernel_rfl) (by kernel_rfl) (by kernel_rfl) ?hqd05 ?hyd05 hHeld ?restd05
                case hid05 => exact rfl
                case hqd05 => exact fun _ _ _ h => h
                case hyd05 =>
                  refine Or.inl ⟨by rfl, ?_⟩
                  intro w hSw
                  (try dsimp only at hSw)
                  go_simp
                  (try with_reducible rfl)
                try simp only [Act.put, List.getElem_toArray, List.getElem_cons_succ, List.getElem_cons_zero, List.setIfInBounds_toArray, List.set_cons_zero, List.set_cons_succ]
                refine wpAnyH_take (i := 6) (oi := ?oid06) (v := ?vd06) ?hid06 (by kernel_rfl) (by kernel_rfl) (by kernel_rfl) ?hqd06 ?hyd06 hHeld ?restd06
                case hid06 => exact rfl
                case hqd06 => exact fun _ _ _ h => h
                case hyd06 =>
                  refine Or.inl ⟨by rfl, ?_⟩
                  intro w hSw
                  (try dsimp only at hSw)
                  go_simp
                  (try with_reducible rfl)
                try simp only [Act.put, List.getElem_toArray, List.getElem_cons_succ, List.getElem_cons_zero, List.setIfInBounds_toArray, List.set_cons_zero, List.set_cons_succ]
                refine wpAnyH_take (i := 7) (oi := ?oid07) (v := ?vd07) ?hid07 (by kernel_rfl) (by kernel_rfl) (by kernel_rfl) ?hqd07 ?hyd07 hHeld ?restd07
                case hid07 => exact rfl
                case hqd07 => exact fun _ _ _ h => h
                case hyd07 =>
                  refine Or.inl ⟨by rfl, ?_⟩
                  intro w hSw
                  (try dsimp only at hSw)
                  go_simp
                  (try with_reducible rfl)
                try simp only [Act.put, List.getElem_toArray, List.getElem_cons_succ, List.getElem_cons_zero, List.setIfInBounds_toArray, List.set_cons_zero, List.set_cons_succ]
                refine wpAnyH_take (i := 8) (oi := ?oid08) (v := ?vd08) ?hid08 (by kernel_rfl) (by kernel_rfl) (by kernel_rfl) ?hqd08 ?hyd08 hHeld ?restd08
                case hid08 => exact rfl
                case hqd08 => exact fun _ _ _ h => h
                case hyd08 =>
                  refine Or.inl ⟨by rfl, ?_⟩
                  intro w hSw
                  (try dsimp only at hSw)
                  go_simp
                  (try with_reducible rfl)
                try simp only [Act.put, List.getElem_toArray, List.getElem_cons_succ, List.getElem_cons_zero, List.setIfInBounds_toArray, List.set_cons_zero, List.set_cons_succ]
                refine wpAnyH_take (i := 9) (oi := ?oid09) (v := ?vd09) ?hid09 (by kernel_rfl) (by kernel_rfl) (by kernel_rfl) ?hqd09 ?hyd09 hHeld ?restd09
                case hid09 => exact rfl
                case hqd09 => exact fun _ _ _ h => h
                case hyd09 =>
                  refine Or.inl ⟨by rfl, ?_⟩
                  intro w hSw
                  (try dsimp only at hSw)
                  go_simp
                  (try with_reducible rfl)
                try simp only [Act.put, List.getElem_toArray, List.getElem_cons_succ, List.getElem_cons_zero, List.setIfInBounds_toArray, List.set_cons_zero, List.set_cons_succ]
                refine wpAnyH_take (i := 10) (oi := ?oid10) (v := ?vd10) ?hid10 (by kernel_rfl) (by kernel_rfl) (by kernel_rfl) ?hqd10 ?hyd10 hHeld ?restd10
                case hid10 => exact rfl
                case hqd10 => exact fun _ _ _ h => h
                case hyd10 =>
                  refine Or.inl ⟨by rfl, ?_⟩
                  intro w hSw
                  (try dsimp only at hSw)
                  go_simp
                  (try with_reducible rfl)
                try simp only [Act.put, List.getElem_toArray, List.getElem_cons_succ, List.getElem_cons_zero, List.setIfInBounds_toArray, List.set_cons_zero, List.set_cons_succ]
                refine wpAnyH_take (i := 11) (oi := ?oid11) (v := ?vd11) ?hid11 (by kernel_rfl) (by kernel_rfl) (by kernel_rfl) ?hqd11 ?hyd11 hHeld ?restd11
                case hid11 => exact rfl
                case hqd11 => exact fun _ _ _ h => h
                case hyd11 =>
                  refine Or.inl ⟨by rfl, ?_⟩
                  intro w hSw
                  (try dsimp only at hSw)
                  go_simp
                  (try with_reducible rfl)
                try simp only [Act.put, List.getElem_toArray, List.getElem_cons_succ, List.getElem_cons_zero, List.setIfInBounds_toArray, List.set_cons_zero, List.set_cons_succ]
                refine wpAnyH_take (i := 12) (oi := ?oid12) (v := ?vd12) ?hid12 (by kernel_rfl) (by kernel_rfl) (by kernel_rfl) ?hqd12 ?hyd12 hHeld ?restd12
                case hid12 => exact rfl
                case hqd12 => exact fun _ _ _ h => h
                case hyd12 =>
                  refine Or.inl ⟨by rfl, ?_⟩
                  intro w hSw
                  (try dsimp only at hSw)
                  go_simp
                  (try with_reducible rfl)
                try simp only [Act.put, List.getElem_toArray, List.getElem_cons_succ, List.getElem_cons_zero, List.setIfInBounds_toArray, List.set_cons_zero, List.set_cons_succ]
                refine wpAnyH_take (i := 13) (oi := ?oid13) (v := ?vd13) ?hid13 (by kernel_rfl) (by kernel_rfl) (by kernel_rfl) ?hqd13 ?hyd13 hHeld ?restd13
                case hid13 => exact rfl
                case hqd13 => exact fun _ _ _ h => h
                case hyd13 =>
                  refine Or.inl ⟨by rfl, ?_⟩
                  intro w hSw
                  (try dsimp only at hSw)
                  go_simp
                  (try with_reducible rfl)
                try simp only [Act.put, List.getElem_toArray, List.getElem_cons_succ, List.getElem_cons_zero, List.setIfInBounds_toArray, List.set_cons_zero, List.set_cons_succ]
                refine wpAnyH_take (i := 14) (oi := ?oid14) (v := ?vd14) ?hid14 (by kernel_rfl) (by kernel_rfl) (by kernel_rfl) ?hqd14 ?hyd14 hHeld ?restd14
                case hid14 => exact rfl
                case hqd14 => exact fun _ _ _ h => h
                case hyd14 =>
                  refine Or.inl ⟨by rfl, ?_⟩
                  intro w hSw
                  (try dsimp only at hSw)
                  go_simp
                  (try with_reducible rfl)
                try simp only [Act.put, List.getElem_toArray, List.getElem_cons_succ, List.getElem_cons_zero, List.setIfInBounds_toArray, List.set_cons_zero, List.set_cons_succ]
                refine wpAnyH_take (i := 15) (oi := ?oid15) (v := ?vd15) ?hid15 (by kernel_rfl) (by kernel_rfl) (by kernel_rfl) ?hqd15 ?hyd15 hHeld ?restd15
                case hid15 => exact rfl
                case hqd15 => exact fun _ _ _ h => h
                case hyd15 =>
                  refine Or.inl ⟨by rfl, ?_⟩
                  intro w hSw
                  (try dsimp only at hSw)
                  go_simp
                  (try with_reducible rfl)
                try simp only [Act.put, List.getElem_toArray, List.getElem_cons_succ, List.getElem_cons_zero, List.setIfInBounds_toArray, List.set_cons_zero, List.set_cons_succ]
                refine wpAnyH_take (i := 16) (oi := ?oid16) (v := ?vd16) ?hid16 (by kernel_rfl) (by kernel_rfl) (by kernel_rfl) ?hqd16 ?hyd16 hHeld ?restd16
                case hid16 => exact rfl
                case hqd16 => exact fun _ _ _ h => h
                case hyd16 =>
                  refine Or.inl ⟨by rfl, ?_⟩
                  intro w hSw
                  (try dsimp only at hSw)
                  go_simp
                  (try with_reducible rfl)
                try simp only [Act.put, List.getElem_toArray, List.getElem_cons_succ, List.getElem_cons_zero, List.setIfInBounds_toArray, List.set_cons_zero, List.set_cons_succ]
                refine wpAnyH_take (i := 17) (oi := ?oid17) (v := ?vd17) ?hid17 (by kernel_rfl) (by kernel_rfl) (by kernel_rfl) ?hqd17 ?hyd17 hHeld ?restd17
                case hid17 => exact rfl
                case hqd17 => exact fun _ _ _ h => h
                case hyd17 =>
                  refine Or.inl ⟨by rfl, ?_⟩
                  intro w hSw
                  (try dsimp only at hSw)
                  go_simp
                  (try with_reducible rfl)
                try simp only [Act.put, List.getElem_toArray, List.getElem_cons_succ, List.getElem_cons_zero, List.setIfInBounds_toArray, List.set_cons_zero, List.set_cons_succ]
                refine wpAnyH_take (i := 18) (oi := ?oid18) (v := ?vd18) ?hid18 (by kernel_rfl) (by kernel_rfl) (by kernel_rfl) ?hqd18 ?hyd18 hHeld ?restd18
                case hid18 => exact rfl
                case hqd18 => exact fun _ _ _ h => h
                case hyd18 =>
                  refine Or.inl ⟨by rfl, ?_⟩
                  intro w hSw
                  (try dsimp only at hSw)
                  go_simp
                  (try with_reducible rfl)
                try simp only [Act.put, List.getElem_toArray, List.getElem_cons_succ, List.getElem_cons_zero, List.setIfInBounds_toArray, List.set_cons_zero, List.set_cons_succ]
                refine wpAnyH_take (i := 19) (oi := ?oid19) (v := ?vd19) ?hid19 (by kernel_rfl) (by kernel_rfl) (by kernel_rfl) ?hqd19 ?hyd19 hHeld ?restd19
                case hid19 => exact rfl
                case hqd19 => exact fun _ _ _ h => h
                case hyd19 =>
                  refine Or.inl ⟨by rfl, ?_⟩
                  intro w hSw
                  (try dsimp only at hSw)
                  go_simp
                  (try with_reducible rfl)
                try simp only [Act.put, List.getElem_toArray, List.getElem_cons_succ, List.getElem_cons_zero, List.setIfInBounds_toArray, List.set_cons_zero, List.set_cons_succ]
                refine wpAnyH_take (i := 20) (oi := ?oid20) (v := ?vd20) ?hid20 (by kernel_rfl) (by kernel_rfl) (by kernel_rfl) ?hqd20 ?hyd20 hHeld ?restd20
                case hid20 => exact rfl
                case hqd20 => exact fun _ _ _ h => h
                case hyd20 =>
                  refine Or.inl ⟨by rfl, ?_⟩
                  intro w hSw
                  (try dsimp only at hSw)
                  go_simp
                  (try with_reducible rfl)
                try simp only [Act.put, List.getElem_toArray, List.getElem_cons_succ, List.getElem_cons_zero, List.setIfInBounds_toArray, List.set_cons_zero, List.set_cons_succ]
                refine wpAnyH_take (i := 21) (oi := ?oid21) (v := ?vd21) ?hid21 (by kernel_rfl) (by kernel_rfl) (by kernel_rfl) ?hqd21 ?hyd21 hHeld ?restd21
                case hid21 => exact rfl
                case hqd21 => exact fun _ _ _ h => h
                case hyd21 =>
                  refine Or.inl ⟨by rfl, ?_⟩
                  intro w hSw
                  (try dsimp only at hSw)
                  go_simp
                  (try with_reducible rfl)
                try simp only [Act.put, List.getElem_toArray, List.getElem_cons_succ, List.getElem_cons_zero, List.setIfInBounds_toArray, List.set_cons_zero, List.set_cons_succ]
                refine wpAnyH_take (i := 22) (oi := ?oid22) (v := ?vd22) ?hid22 (by kernel_rfl) (by kernel_rfl) (by kernel_rfl) ?hqd22 ?hyd22 hHeld ?restd22
                case hid22 => exact rfl
                case hqd22 => exact fun _ _ _ h => h
                case hyd22 =>
                  refine Or.inl ⟨by rfl, ?_⟩
                  intro w hSw
                  (try dsimp only at hSw)
                  go_simp
                  (try with_reducible rfl)
                try simp only [Act.put, List.getElem_toArray, List.getElem_cons_succ, List.getElem_cons_zero, List.setIfInBounds_toArray, List.set_cons_zero, List.set_cons_succ]
                refine wpAnyH_take (i := 23) (oi := ?oid23) (v := ?vd23) ?hid23 (by kernel_rfl) (by kernel_rfl) (by kernel_rfl) ?hqd23 ?hyd23 hHeld ?restd23
                case hid23 => exact rfl
                case hqd23 => exact fun _ _ _ h => h
                case hyd23 =>
                  refine Or.inl ⟨by rfl, ?_⟩
                  intro w hSw
                  (try dsimp only at hSw)
                  go_simp
                  (try with_reducible rfl)
                try simp only [Act.put, List.getElem_toArray, List.getElem_cons_succ, List.getElem_cons_zero, List.setIfInBounds_toArray, List.set_cons_zero, List.set_cons_succ]
                refine wpAnyH_take (i := 24) (oi := ?oid24) (v := ?vd24) ?hid24 (by kernel_rfl) (by kernel_rfl) (by kernel_rfl) ?hqd24 ?hyd24 hHeld ?restd24
                case hid24 => exact rfl
                case hqd24 => exact fun _ _ _ h => h
                case hyd24 =>
                  refine Or.inl ⟨by rfl, ?_⟩
                  intro w hSw
                  (try dsimp only at hSw)
                  go_simp
                  (try with_reducible rfl)
                try simp only [Act.put, List.getElem_toArray, List.getElem_cons_succ, List.getElem_cons_zero, List.setIfInBounds_toArray, List.set_cons_zero, List.set_cons_succ]
                refine wpAnyH_take (i := 25) (oi := ?oid25) (v := ?vd25) ?hid25 (by kernel_rfl) (by kernel_rfl) (by kernel_rfl) ?hqd25 ?hyd25 hHeld ?restd25
                case hid25 => exact rfl
                case hqd25 => exact fun _ _ _ h => h
                case hyd25 =>
                  refine Or.inl ⟨by rfl, ?_⟩
                  intro w hSw
                  (try dsimp only at hSw)
                  go_simp
                  (try with_reducible rfl)
                try simp only [Act.put, List.getElem_toArray, List.getElem_cons_succ, List.getElem_cons_zero, List.setIfInBounds_toArray, List.set_cons_zero, List.set_cons_succ]
                refine wpAnyH_take (i := 26) (oi := ?oid26) (v := ?vd26) ?hid26 (by kernel_rfl) (by kernel_rfl) (by kernel_rfl) ?hqd26 ?hyd26 hHeld ?restd26
                case hid26 => exact rfl
                case hqd26 => exact fun _ _ _ h => h
                case hyd26 =>
                  refine Or.inl ⟨by rfl, ?_⟩
                  intro w hSw
                  (try dsimp only at hSw)
                  go_simp
                  (try with_reducible rfl)
                try simp only [Act.put, List.getElem_toArray, List.getElem_cons_succ, List.getElem_cons_zero, List.setIfInBounds_toArray, List.set_cons_zero, List.set_cons_succ]
                refine wpAnyH_take (i := 27) (oi := ?oid27) (v := ?vd27) ?hid27 (by kernel_rfl) (by kernel_rfl) (by kernel_rfl) ?hqd27 ?hyd27 hHeld ?restd27
                case hid27 => exact rfl
                case hqd27 => exact fun _ _ _ h => h
                case hyd27 =>
                  refine Or.inl ⟨by rfl, ?_⟩
                  intro w hSw
                  (try dsimp only at hSw)
                  go_simp
                  (try with_reducible rfl)
                try simp only [Act.put, List.getElem_toArray, List.getElem_cons_succ, List.getElem_cons_zero, List.setIfInBounds_toArray, List.set_cons_zero, List.set_cons_succ]
                refine wpAnyH_take (i := 28) (oi := ?oid28) (v := ?vd28) ?hid28 (by kernel_rfl) (by kernel_rfl) (by kernel_rfl) ?hqd28 ?hyd28 hHeld ?restd28
                case hid28 => exact rfl
                case hqd28 => exact fun _ _ _ h => h
                case hyd28 =>
                  refine Or.inl ⟨by rfl, ?_⟩
                  intro w hSw
                  (try dsimp only at hSw)
                  go_simp
                  (try with_reducible rfl)
                try simp only [Act.put, List.getElem_toArray, List.getElem_cons_succ, List.getElem_cons_zero, List.setIfInBounds_toArray, List.set_cons_zero, List.set_cons_succ]
                refine wpAnyH_take (i := 29) (oi := ?oid29) (v := ?vd29) ?hid29 (by kernel_rfl) (by kernel_rfl) (by kernel_rfl) ?hqd29 ?hyd29 hHeld ?restd29
                case hid29 => exact rfl
                case hqd29 => exact fun _ _ _ h => h
                case hyd29 =>
                  refine Or.inl ⟨by rfl, ?_⟩
                  intro w hSw
                  (try dsimp only at hSw)
                  go_simp
                  (try with_reducible rfl)
                try simp only [Act.put, List.getElem_toArray, List.getElem_cons_succ, List.getElem_cons_zero, List.setIfInBounds_toArray, List.set_cons_zero, List.set_cons_succ]
                refine wpAnyH_take (i := 30) (oi := ?oid30) (v := ?vd30) ?hid30 (by kernel_rfl) (by kernel_rfl) (by kernel_rfl) ?hqd30 ?hyd30 hHeld ?restd30
                case hid30 => exact rfl
                case hqd30 => exact fun _ _ _ h => h
                case hyd30 =>
                  refine Or.inl ⟨by rfl, ?_⟩
                  intro w hSw
                  (try dsimp only at hSw)
                  go_simp
                  (try with_reducible rfl)
                try simp only [Act.put, List.getElem_toArray, List.getElem_cons_succ, List.getElem_cons_zero, List.setIfInBounds_toArray, List.set_cons_zero, List.set_cons_succ]
                refine wpAnyH_take (i := 31) (oi := ?oid31) (v := ?vd31) ?hid31 (by kernel_rfl) (by kernel_rfl) (by kernel_rfl) ?hqd31 ?hyd31 hHeld ?restd31
                case hid31 => exact rfl
                case hqd31 => exact fun _ _ _ h => h
                case hyd31 =>
                  refine Or.inl ⟨by rfl, ?_⟩
                  intro w hSw
                  (try dsimp only at hSw)
                  go_simp
                  (try with_reducible rfl)
                try simp only [Act.put, List.getElem_toArray, List.getElem_cons_succ, List.getElem_cons_zero, List.setIfInBounds_toArray, List.set_cons_zero, List.set_cons_succ]
                refine wpAnyH_take (i := 32) (oi := ?oid32) (v := ?vd32) ?hid32 (by kernel_rfl) (by kernel_rfl) (by kernel_rfl) ?hqd32 ?hyd32 hHeld ?restd32
                case hid32 => exact rfl
                case hqd32 => exact fun _ _ _ h => h
                case hyd32 =>
                  refine Or.inl ⟨by rfl, ?_⟩
                  intro w hSw
                  (try dsimp only at hSw)
                  go_simp
                  (try with_reducible rfl)
                try simp only [Act.put, List.getElem_toArray, List.getElem_cons_succ, List.getElem_cons_zero, List.setIfInBounds_toArray, List.set_cons_zero, List.set_cons_succ]
                refine wpAnyH_take (i := 33) (oi := ?oid33) (v := undef) ?hid33 (by kernel_rfl) (by kernel_rfl) (by kernel_rfl) ?hqd33 ?hyd33 hHeld ?restd33
                case hid33 => exact rfl
                case hqd33 => exact fun _ _ _ h => h
                case hyd33 => exact Or.inr ⟨by kernel_rfl, rfl⟩
                try simp only [Act.put, List.getElem_toArray, List.getElem_cons_succ, List.getElem_cons_zero, List.setIfInBounds_toArray, List.set_cons_zero, List.set_cons_succ]
                refine wpAnyH_take (i := 34) (oi := ?oid34) (v := undef) ?hid34 (by kernel_rfl) (by kernel_rfl) (by kernel_rfl) ?hqd34 ?hyd34 hHeld ?restd34
                case hid34 => exact rfl
                case hqd34 => exact fun _ _ _ h => h
                case hyd34 => exact Or.inr ⟨by kernel_rfl, rfl⟩
                try simp only [Act.put, List.getElem_toArray, List.getElem_cons_succ, List.getElem_cons_zero, List.setIfInBounds_toArray, List.set_cons_zero, List.set_cons_succ]
                refine wpAnyH_take (i := 35) (oi := ?oid35) (v := undef) ?hid35 (by kernel_rfl) (by kernel_rfl) (by kernel_rfl) ?hqd35 ?hyd35 hHeld ?restd35
                case hid35 => exact rfl
                case hqd35 => exact fun _ _ _ h => h
                case hyd35 => exact Or.inr ⟨by kernel_rfl, rfl⟩
                try simp only [Act.put, List.getElem_toArray, List.getElem_cons_succ, List.getElem_cons_zero, List.setIfInBounds_toArray, List.set_cons_zero, List.set_cons_succ]
                refine wpAnyH_take (i := 36) (oi := ?oid36) (v := undef) ?hid36 (by kernel_rfl) (by kernel_rfl) (by kernel_rfl) ?hqd36 ?hyd36 hHeld ?restd36
                case hid36 => exact rfl
                case hqd36 => exact fun _ _ _ h => h
                case hyd36 => exact Or.inr ⟨by kernel_rfl, rfl⟩
                try simp only [Act.put, List.getElem_toArray, List.getElem_cons_succ, List.getElem_cons_zero, List.setIfInBounds_toArray, List.set_cons_zero, List.set_cons_succ]
                refine wpAnyH_take (i := 37) (oi := ?oid37) (v := undef) ?hid37 (by kernel_rfl) (by kernel_rfl) (by kernel_rfl) ?hqd37 ?hyd37 hHeld ?restd37
                case hid37 => exact rfl
                case hqd37 => exact fun _ _ _ h => h
                case hyd37 => exact Or.inr ⟨by kernel_rfl, rfl⟩
                try simp only [Act.put, List.getElem_toArray, List.getElem_cons_succ, List.getElem_cons_zero, List.setIfInBounds_toArray, List.set_cons_zero, List.set_cons_succ]
                refine wpAnyH_take (i := 38) (oi := ?oid38) (v := undef) ?hid38 (by kernel_rfl) (by kernel_rfl) (by kernel_rfl) ?hqd38 ?hyd38 hHeld ?restd38
                case hid38 => exact rfl
                case hqd38 => exact fun _ _ _ h => h
                case hyd38 => exact Or.inr ⟨by kernel_rfl, rfl⟩
                try simp only [Act.put, List.getElem_toArray, List.getElem_cons_succ, List.getElem_cons_zero, List.setIfInBounds_toArray, List.set_cons_zero, List.set_cons_succ]
                refine wpAnyH_take (i := 39) (oi := ?oid39) (v := undef) ?hid39 (by kernel_rfl) (by kernel_rfl) (by kernel_rfl) ?hqd39 ?hyd39 hHeld ?restd39
                case hid39 => exact rfl
                case hqd39 => exact fun _ _ _ h => h
                case hyd39 => exact Or.inr ⟨by kernel_rfl, rfl⟩
                try simp only [Act.put, List.getElem_toArray, List.getElem_cons_succ, List.getElem_cons_zero, List.setIfInBounds_toArray, List.set_cons_zero, List.set_cons_succ]
                refine wpAnyH_take (i := 40) (oi := ?oid40) (v := ?vd40) ?hid40 (by kernel_rfl) (by kernel_rfl) (by kernel_rfl) ?hqd40 ?hyd40 hHeld ?restd40
                case hid40 => exact rfl
                case hqd40 => exact fun _ _ _ h => h
                case hyd40 =>
                  refine Or.inl ⟨by rfl, ?_⟩
                  intro w hSw
                  (try dsimp only at hSw)
                  go_simp
                  (try with_reducible rfl)
                try simp only [Act.put, List.getElem_toArray, List.getElem_cons_succ, List.getElem_cons_zero, List.setIfInBounds_toArray, List.set_cons_zero, List.set_cons_succ]
                refine wpAnyH_done (by kernel_rfl) ?_ _
                go_wp2_with fail
                go_ret
                exact ⟨ret_int HR.out.symm, HB.out.drew⟩
              · have HE' := Lib.hid he'
                clear he'
                cases hl : isLn e.ln
                · have HR := Lib.hid (vx_el h4 he (by rw [hbt, hl]; rfl))
                  rw [hl] at HVL
                  clear he hx hbt hl
                  go_upto_region 6 with fail
                  refine wp_region_held_drew (S := (fun w' => w'.cell? ⟨b, off + k * 5, none⟩ = some (.int .i64 e.at_) ∧ w'.cell? ⟨b, off + k * 5 + 1, none⟩ = some (.int .i64 e.ln.op) ∧ w'.cell? ⟨b, off + k * 5 + 2, none⟩ = some (.int .i64 e.ln.to) ∧ w'.cell? ⟨b, off + k * 5 + 3, none⟩ = some (.int .i64 e.ln.a) ∧ w'.cell? ⟨b, off + k * 5 + 4, none⟩ = some (.int .i64 e.ln.b) ∧ w'.cell? ⟨b, off + (k - 1) * 5, none⟩ = some (.int .i64 e'.at_))) (by kernel_rfl) ?_ (fun hHeld => ?_)
                  · exact ⟨c0, c1, c2, c3, c4, d0⟩
                  refine wpAnyH_take (i := 0) (oi := ?oiex00) (v := ?vex00) ?hiex00 (by kernel_rfl) (by kernel_rfl) (by kernel_rfl) ?hqex00 ?hyex00 hHeld ?restex00
                  case hiex00 => exact rfl
                  case hqex00 => exact fun _ _ _ h => h
                  case hyex00 =>
                    refine Or.inl ⟨by rfl, ?_⟩
                    intro w hSw
                    (try dsimp only at hSw)
                    go_simp
                    (try with_reducible rfl)
                  try simp only [Act.put, List.getElem_toArray, List.getElem_cons_succ, List.getElem_cons_zero, List.setIfInBounds_toArray, List.set_cons_zero, List.set_cons_succ]
                  refine wpAnyH_take (i := 1) (oi := ?oiex01) (v := ?vex01) ?hiex01 (by kernel_rfl) (by kernel_rfl) (by kernel_rfl) ?hqex01 ?hyex01 hHeld ?restex01
                  case hiex01 => exact rfl
                  case hqex01 => exact fun _ _ _ h => h
                  case hyex01 =>
                    refine Or.inl ⟨by rfl, ?_⟩
                    intro w hSw
                    (try dsimp only at hSw)
                    go_simp
                    (try with_reducible rfl)
                  try simp only [Act.put, List.getElem_toArray, List.getElem_cons_succ, List.getElem_cons_zero, List.setIfInBounds_toArray, List.set_cons_zero, List.set_cons_succ]
                  refine wpAnyH_take (i := 2) (oi := ?oiex02) (v := ?vex02) ?hiex02 (by kernel_rfl) (by kernel_rfl) (by kernel_rfl) ?hqex02 ?hyex02 hHeld ?restex02
                  case hiex02 => exact rfl
                  case hqex02 => exact fun _ _ _ h => h
                  case hyex02 =>
                    refine Or.inl ⟨by rfl, ?_⟩
                    intro w hSw
                    (try dsimp only at hSw)
                    go_simp
                    (try with_reducible rfl)
                  try simp only [Act.put, List.getElem_toArray, List.getElem_cons_succ, List.getElem_cons_zero, List.setIfInBounds_toArray, List.set_cons_zero, List.set_cons_succ]
                  refine wpAnyH_take (i := 3) (oi := ?oiex03) (v := ?vex03) ?hiex03 (by kernel_rfl) (by kernel_rfl) (by kernel_rfl) ?hqex03 ?hyex03 hHeld ?restex03
                  case hiex03 => exact rfl
                  case hqex03 => exact fun _ _ _ h => h
                  case hyex03 =>
                    refine Or.inl ⟨by rfl, ?_⟩
                    intro w hSw
                    (try dsimp only at hSw)
                    go_simp
                    (try with_reducible rfl)
                  try simp only [Act.put, List.getElem_toArray, List.getElem_cons_succ, List.getElem_cons_zero, List.setIfInBounds_toArray, List.set_cons_zero, List.set_cons_succ]
                  refine wpAnyH_take (i := 4) (oi := ?oiex04) (v := ?vex04) ?hiex04 (by kernel_rfl) (by kernel_rfl) (by kernel_rfl) ?hqex04 ?hyex04 hHeld ?restex04
                  case hiex04 => exact rfl
                  case hqex04 => exact fun _ _ _ h => h
                  case hyex04 =>
                    refine Or.inl ⟨by rfl, ?_⟩
                    intro w hSw
                    (try dsimp only at hSw)
                    go_simp
                    (try with_reducible rfl)
                  try simp only [Act.put, List.getElem_toArray, List.getElem_cons_succ, List.getElem_cons_zero, List.setIfInBounds_toArray, List.set_cons_zero, List.set_cons_succ]
                  refine wpAnyH_take (i := 5) (oi := ?oiex05) (v := ?vex05) ?hiex05 (by kernel_rfl) (by kernel_rfl) (by kernel_rfl) ?hqex05 ?hyex05 hHeld ?restex05
                  case hiex05 => exact rfl
                  case hqex05 => exact fun _ _ _ h => h
                  case hyex05 =>
                    refine Or.inl ⟨by rfl, ?_⟩
                    intro w hSw
                    (try dsimp only at hSw)
                    go_simp
                    (try with_reducible rfl)
                  try simp only [Act.put, List.getElem_toArray, List.getElem_cons_succ, List.getElem_cons_zero, List.setIfInBounds_toArray, List.set_cons_zero, List.set_cons_succ]
                  refine wpAnyH_take (i := 6) (oi := ?oiex06) (v := ?vex06) ?hiex06 (by kernel_rfl) (by kernel_rfl) (by kernel_rfl) ?hqex06 ?hyex06 hHeld ?restex06
                  case hiex06 => exact rfl
                  case hqex06 => exact fun _ _ _ h => h
                  case hyex06 =>
                    refine Or.inl ⟨by rfl, ?_⟩
                    intro w hSw
                    (try dsimp only at hSw)
                    go_simp
                    (try with_reducible rfl)
                  try simp only [Act.put, List.getElem_toArray, List.getElem_cons_succ, List.getElem_cons_zero, List.setIfInBounds_toArray, List.set_cons_zero, List.set_cons_succ]
                  refine wpAnyH_take (i := 7) (oi := ?oiex07) (v := ?vex07) ?hiex07 (by kernel_rfl) (by kernel_rfl) (by kernel_rfl) ?hqex07 ?hyex07 hHeld ?restex07
                  case hiex07 => exact rfl
                  case hqex07 => exact fun _ _ _ h => h
                  case hyex07 =>
                    refine Or.inl ⟨by rfl, ?_⟩
                    intro w hSw
                    (try dsimp only at hSw)
                    go_simp
                    (try with_reducible rfl)
                  try simp only [Act.put, List.getElem_toArray, List.getElem_cons_succ, List.getElem_cons_zero, List.setIfInBounds_toArray, List.set_cons_zero, List.set_cons_succ]
                  refine wpAnyH_take (i := 8) (oi := ?oiex08) (v := ?vex08) ?hiex08 (by kernel_rfl) (by kernel_rfl) (by kernel_rfl) ?hqex08 ?hyex08 hHeld ?restex08
                  case hiex08 => exact rfl
                  case hqex08 => exact fun _ _ _ h => h
                  case hyex08 =>
                    refine Or.inl ⟨by rfl, ?_⟩
                    intro w hSw
                    (try dsimp only at hSw)
                    go_simp
                    (try with_reducible rfl)
                  try simp only [Act.put, List.getElem_toArray, List.getElem_cons_succ, List.getElem_cons_zero, List.setIfInBounds_toArray, List.set_cons_zero, List.set_cons_succ]
                  refine wpAnyH_take (i := 9) (oi := ?oiex09) (v := ?vex09) ?hiex09 (by kernel_rfl) (by kernel_rfl) (by kernel_rfl) ?hqex09 ?hyex09 hHeld ?restex09
                  case hiex09 => exact rfl
                  case hqex09 => exact fun _ _ _ h => h
                  case hyex09 =>
                    refine Or.inl ⟨by rfl, ?_⟩
                    intro w hSw
                    (try dsimp only at hSw)
                    go_simp
                    (try with_reducible rfl)
                  try simp only [Act.put, List.getElem_toArray, List.getElem_cons_succ, List.getElem_cons_zero, List.setIfInBounds_toArray, List.set_cons_zero, List.set_cons_succ]
                  refine wpAnyH_take (i := 10) (oi := ?oiex10) (v := ?vex10) ?hiex10 (by kernel_rfl) (by kernel_rfl) (by kernel_rfl) ?hqex10 ?hyex10 hHeld ?restex10
                  case hiex10 => exact rfl
                  case hqex10 => exact fun _ _ _ h => h
                  case hyex10 =>
                    refine Or.inl ⟨by rfl, ?_⟩
                    intro w hSw
                    (try dsimp only at hSw)
                    go_simp
                    (try with_reducible rfl)
                  try simp only [Act.put, List.getElem_toArray, List.getElem_cons_succ, List.getElem_cons_zero, List.setIfInBounds_toArray, List.set_cons_zero, List.set_cons_succ]
                  refine wpAnyH_take (i := 11) (oi := ?oiex11) (v := ?vex11) ?hiex11 (by kernel_rfl) (by kernel_rfl) (by kernel_rfl) ?hqex11 ?hyex11 hHeld ?restex11
                  case hiex11 => exact rfl
                  case hqex11 => exact fun _ _ _ h => h
                  case hyex11 =>
                    refine Or.inl ⟨by rfl, ?_⟩
                    intro w hSw
                    (try dsimp only at hSw)
                    go_simp
                    (try with_reducible rfl)
                  try simp only [Act.put, List.getElem_toArray, List.getElem_cons_succ, List.getElem_cons_zero, List.setIfInBounds_toArray, List.set_cons_zero, List.set_cons_succ]
                  refine wpAnyH_take (i := 12) (oi := ?oiex12) (v := ?vex12) ?hiex12 (by kernel_rfl) (by kernel_rfl) (by kernel_rfl) ?hqex12 ?hyex12 hHeld ?restex12
                  case hiex12 => exact rfl
                  case hqex12 => exact fun _ _ _ h => h
                  case hyex12 =>
                    refine Or.inl ⟨by rfl, ?_⟩
                    intro w hSw
                    (try dsimp only at hSw)
                    go_simp
                    (try with_reducible rfl)
                  try simp only [Act.put, List.getElem_toArray, List.getElem_cons_succ, List.getElem_cons_zero, List.setIfInBounds_toArray, List.set_cons_zero, List.set_cons_succ]
                  refine wpAnyH_take (i := 13) (oi := ?oiex13) (v := ?vex13) ?hiex13 (by kernel_rfl) (by kernel_rfl) (by kernel_rfl) ?hqex13 ?hyex13 hHeld ?restex13
                  case hiex13 => exact rfl
                  case hqex13 => exact fun _ _ _ h => h
                  case hyex13 =>
                    refine Or.inl ⟨by rfl, ?_⟩
                    intro w hSw
                    (try dsimp only at hSw)
                    go_simp
                    (try with_reducible rfl)
                  try simp only [Act.put, List.getElem_toArray, List.getElem_cons_succ, List.getElem_cons_zero, List.setIfInBounds_toArray, List.set_cons_zero, List.set_cons_succ]
                  refine wpAnyH_take (i := 14) (oi := ?oiex14) (v := ?vex14) ?hiex14 (by kernel_rfl) (by kernel_rfl) (by kernel_rfl) ?hqex14 ?hyex14 hHeld ?restex14
                  case hiex14 => exact rfl
                  case hqex14 => exact fun _ _ _ h => h
                  case hyex14 =>
                    refine Or.inl ⟨by rfl, ?_⟩
                    intro w hSw
                    (try dsimp only at hSw)
                    go_simp
                    (try with_reducible rfl)
                  try simp only [Act.put, List.getElem_toArray, List.getElem_cons_succ, List.getElem_cons_zero, List.setIfInBounds_toArray, List.set_cons_zero, List.set_cons_succ]
                  refine wpAnyH_take (i := 15) (oi := ?oiex15) (v := ?vex15) ?hiex15 (by kernel_rfl) (by kernel_rfl) (by kernel_rfl) ?hqex15 ?hyex15 hHeld ?restex15
                  case hiex15 => exact rfl
                  case hqex15 => exact fun _ _ _ h => h
                  case hyex15 =>
                    refine Or.inl ⟨by rfl, ?_⟩
                    intro w hSw
                    (try dsimp only at hSw)
                    go_simp
                    (try with_reducible rfl)
                  try simp only [Act.put, List.getElem_toArray, List.getElem_cons_succ, List.getElem_cons_zero, List.setIfInBounds_toArray, List.set_cons_zero, List.set_cons_succ]
                  refine wpAnyH_take (i := 16) (oi := ?oiex16) (v := ?vex16) ?hiex16 (by kernel_rfl) (by kernel_rfl) (by kernel_rfl) ?hqex16 ?hyex16 hHeld ?restex16
                  case hiex16 => exact rfl
                  case hqex16 => exact fun _ _ _ h => h
                  case hyex16 =>
                    refine Or.inl ⟨by rfl, ?_⟩
                    intro w hSw
                    (try dsimp only at hSw)
                    go_simp
                    (try with_reducible rfl)
                  try simp only [Act.put, List.getElem_toArray, List.getElem_cons_succ, List.getElem_cons_zero, List.setIfInBounds_toArray, List.set_cons_zero, List.set_cons_succ]
                  refine wpAnyH_take (i := 17) (oi := ?oiex17) (v := ?vex17) ?hiex17 (by kernel_rfl) (by kernel_rfl) (by kernel_rfl) ?hqex17 ?hyex17 hHeld ?restex17
                  case hiex17 => exact rfl
                  case hqex17 => exact fun _ _ _ h => h
                  case hyex17 =>
                    refine Or.inl ⟨by rfl, ?_⟩
                    intro w hSw
                    (try dsimp only at hSw)
                    go_simp
                    (try with_reducible rfl)
                  try simp only [Act.put, List.getElem_toArray, List.getElem_cons_succ, List.getElem_cons_zero, List.setIfInBounds_toArray, List.set_cons_zero, List.set_cons_succ]
                  refine wpAnyH_take (i := 18) (oi := ?oiex18) (v := ?vex18) ?hiex18 (by kernel_rfl) (by kernel_rfl) (by kernel_rfl) ?hqex18 ?hyex18 hHeld ?restex18
                  case hiex18 => exact rfl
                  case hqex18 => exact fun _ _ _ h => h
                  case hyex18 =>
                    refine Or.inl ⟨by rfl, ?_⟩
                    intro w hSw
                    (try dsimp only at hSw)
                    go_simp
                    (try with_reducible rfl)
                  try simp only [Act.put, List.getElem_toArray, List.getElem_cons_succ, List.getElem_cons_zero, List.setIfInBounds_toArray, List.set_cons_zero, List.set_cons_succ]
                  refine wpAnyH_take (i := 19) (oi := ?oiex19) (v := ?vex19) ?hiex19 (by kernel_rfl) (by kernel_rfl) (by kernel_rfl) ?hqex19 ?hyex19 hHeld ?restex19
                  case hiex19 => exact rfl
                  case hqex19 => exact fun _ _ _ h => h
                  case hyex19 =>
                    refine Or.inl ⟨by rfl, ?_⟩
                    intro w hSw
                    (try dsimp only at hSw)
                    go_simp
                    (try with_reducible rfl)
                  try simp only [Act.put, List.getElem_toArray, List.getElem_cons_succ, List.getElem_cons_zero, List.setIfInBounds_toArray, List.set_cons_zero, List.set_cons_succ]
                  refine wpAnyH_take (i := 20) (oi := ?oiex20) (v := ?vex20) ?hiex20 (by kernel_rfl) (by kernel_rfl) (by kernel_rfl) ?hqex20 ?hyex20 hHeld ?restex20
                  case hiex20 => exact rfl
                  case hqex20 => exact fun _ _ _ h => h
                  case hyex20 =>
                    refine Or.inl ⟨by rfl, ?_⟩
                    intro w hSw
                    (try dsimp only at hSw)
                    go_simp
                    (try with_reducible rfl)
                  try simp only [Act.put, List.getElem_toArray, List.getElem_cons_succ, List.getElem_cons_zero, List.setIfInBounds_toArray, List.set_cons_zero, List.set_cons_succ]
                  refine wpAnyH_take (i := 21) (oi := ?oiex21) (v := ?vex21) ?hiex21 (by kernel_rfl) (by kernel_rfl) (by kernel_rfl) ?hqex21 ?hyex21 hHeld ?restex21
                  case hiex21 => exact rfl
                  case hqex21 => exact fun _ _ _ h => h
                  case hyex21 =>
                    refine Or.inl ⟨by rfl, ?_⟩
                    intro w hSw
                    (try dsimp only at hSw)
                    go_simp
                    (try with_reducible rfl)
                  try simp only [Act.put, List.getElem_toArray, List.getElem_cons_succ, List.getElem_cons_zero, List.setIfInBounds_toArray, List.set_cons_zero, List.set_cons_succ]
                  refine wpAnyH_take (i := 22) (oi := ?oiex22) (v := ?vex22) ?hiex22 (by kernel_rfl) (by kernel_rfl) (by kernel_rfl) ?hqex22 ?hyex22 hHeld ?restex22
                  case hiex22 => exact rfl
                  case hqex22 => exact fun _ _ _ h => h
                  case hyex22 =>
                    refine Or.inl ⟨by rfl, ?_⟩
                    intro w hSw
                    (try dsimp only at hSw)
                    go_simp
                    (try with_reducible rfl)
                  try simp only [Act.put, List.getElem_toArray, List.getElem_cons_succ, List.getElem_cons_zero, List.setIfInBounds_toArray, List.set_cons_zero, List.set_cons_succ]
                  refine wpAnyH_take (i := 23) (oi := ?oiex23) (v := ?vex23) ?hiex23 (by kernel_rfl) (by kernel_rfl) (by kernel_rfl) ?hqex23 ?hyex23 hHeld ?restex23
                  case hiex23 => exact rfl
                  case hqex23 => exact fun _ _ _ h => h
                  case hyex23 =>
                    refine Or.inl ⟨by rfl, ?_⟩
                    intro w hSw
                    (try dsimp only at hSw)
                    go_simp
                    (try with_reducible rfl)
                  try simp only [Act.put, List.getElem_toArray, List.getElem_cons_succ, List.getElem_cons_zero, List.setIfInBounds_toArray, List.set_cons_zero, List.set_cons_succ]
                  refine wpAnyH_take (i := 24) (oi := ?oiex24) (v := ?vex24) ?hiex24 (by kernel_rfl) (by kernel_rfl) (by kernel_rfl) ?hqex24 ?hyex24 hHeld ?restex24
                  case hiex24 => exact rfl
                  case hqex24 => exact fun _ _ _ h => h
                  case hyex24 =>
                    refine Or.inl ⟨by rfl, ?_⟩
                    intro w hSw
                    (try dsimp only at hSw)
                    go_simp
                    (try with_reducible rfl)
                  try simp only [Act.put, List.getElem_toArray, List.getElem_cons_succ, List.getElem_cons_zero, List.setIfInBounds_toArray, List.set_cons_zero, List.set_cons_succ]
                  refine wpAnyH_take (i := 25) (oi := ?oiex25) (v := ?vex25) ?hiex25 (by kernel_rfl) (by kernel_rfl) (by kernel_rfl) ?hqex25 ?hyex25 hHeld ?restex25
                  case hiex25 => exact rfl
                  case hqex25 => exact fun _ _ _ h => h
                  case hyex25 =>
                    refine Or.inl ⟨by rfl, ?_⟩
                    intro w hSw
                    (try dsimp only at hSw)
                    go_simp
                    (try with_reducible rfl)
                  try simp only [Act.put, List.getElem_toArray, List.getElem_cons_succ, List.getElem_cons_zero, List.setIfInBounds_toArray, List.set_cons_zero, List.set_cons_succ]
                  refine wpAnyH_take (i := 26) (oi := ?oiex26) (v := ?vex26) ?hiex26 (by kernel_rfl) (by kernel_rfl) (by kernel_rfl) ?hqex26 ?hyex26 hHeld ?restex26
                  case hiex26 => exact rfl
                  case hqex26 => exact fun _ _ _ h => h
                  case hyex26 =>
                    refine Or.inl ⟨by rfl, ?_⟩
                    intro w hSw
                    (try dsimp only at hSw)
                    go_simp
                    (try with_reducible rfl)
                  try simp only [Act.put, List.getElem_toArray, List.getElem_cons_succ, List.getElem_cons_zero, List.setIfInBounds_toArray, List.set_cons_zero, List.set_cons_succ]
                  refine wpAnyH_take (i := 27) (oi := ?oiex27) (v := ?vex27) ?hiex27 (by kernel_rfl) (by kernel_rfl) (by kernel_rfl) ?hqex27 ?hyex27 hHeld ?restex27
                  case hiex27 => exact rfl
                  case hqex27 => exact fun _ _ _ h => h
                  case hyex27 =>
                    refine Or.inl ⟨by rfl, ?_⟩
                    intro w hSw
                    (try dsimp only at hSw)
                    go_simp
                    (try with_reducible rfl)
                  try simp only [Act.put, List.getElem_toArray, List.getElem_cons_succ, List.getElem_cons_zero, List.setIfInBounds_toArray, List.set_cons_zero, List.set_cons_succ]
                  refine wpAnyH_take (i := 28) (oi := ?oiex28) (v := ?vex28) ?hiex28 (by kernel_rfl) (by kernel_rfl) (by kernel_rfl) ?hqex28 ?hyex28 hHeld ?restex28
                  case hiex28 => exact rfl
                  case hqex28 => exact fun _ _ _ h => h
                  case hyex28 =>
                    refine Or.inl ⟨by rfl, ?_⟩
                    intro w hSw
                    (try dsimp only at hSw)
                    go_simp
                    (try with_reducible rfl)
                  try simp only [Act.put, List.getElem_toArray, List.getElem_cons_succ, List.getElem_cons_zero, List.setIfInBounds_toArray, List.set_cons_zero, List.set_cons_succ]
                  refine wpAnyH_take (i := 29) (oi := ?oiex29) (v := ?vex29) ?hiex29 (by kernel_rfl) (by kernel_rfl) (by kernel_rfl) ?hqex29 ?hyex29 hHeld ?restex29
                  case hiex29 => exact rfl
                  case hqex29 => exact fun _ _ _ h => h
                  case hyex29 =>
                    refine Or.inl ⟨by rfl, ?_⟩
                    intro w hSw
                    (try dsimp only at hSw)
                    go_simp
                    (try with_reducible rfl)
                  try simp only [Act.put, List.getElem_toArray, List.getElem_cons_succ, List.getElem_cons_zero, List.setIfInBounds_toArray, List.set_cons_zero, List.set_cons_succ]
                  refine wpAnyH_take (i := 30) (oi := ?oiex30) (v := ?vex30) ?hiex30 (by kernel_rfl) (by kernel_rfl) (by kernel_rfl) ?hqex30 ?hyex30 hHeld ?restex30
                  case hiex30 => exact rfl
                  case hqex30 => exact fun _ _ _ h => h
                  case hyex30 =>
                    refine Or.inl ⟨by rfl, ?_⟩
                    intro w hSw
                    (try dsimp only at hSw)
                    go_simp
                    (try with_reducible rfl)
                  try simp only [Act.put, List.getElem_toArray, List.getElem_cons_succ, List.getElem_cons_zero, List.setIfInBounds_toArray, List.set_cons_zero, List.set_cons_succ]
                  refine wpAnyH_take (i := 31) (oi := ?oiex31) (v := ?vex31) ?hiex31 (by kernel_rfl) (by kernel_rfl) (by kernel_rfl) ?hqex31 ?hyex31 hHeld ?restex31
                  case hiex31 => exact rfl
                  case hqex31 => exact fun _ _ _ h => h
                  case hyex31 =>
                    refine Or.inl ⟨by rfl, ?_⟩
                    intro w hSw
                    (try dsimp only at hSw)
                    go_simp
                    (try with_reducible rfl)
                  try simp only [Act.put, List.getElem_toArray, List.getElem_cons_succ, List.getElem_cons_zero, List.setIfInBounds_toArray, List.set_cons_zero, List.set_cons_succ]
                  refine wpAnyH_take (i := 32) (oi := ?oiex32) (v := ?vex32) ?hiex32 (by kernel_rfl) (by kernel_rfl) (by kernel_rfl) ?hqex32 ?hyex32 hHeld ?restex32
                  case hiex32 => exact rfl
                  case hqex32 => exact fun _ _ _ h => h
                  case hyex32 =>
                    refine Or.inl ⟨by rfl, ?_⟩
                    intro w hSw
                    (try dsimp only at hSw)
                    go_simp
                    (try with_reducible rfl)
                  try simp only [Act.put, List.getElem_toArray, List.getElem_cons_succ, List.getElem_cons_zero, List.setIfInBounds_toArray, List.set_cons_zero, List.set_cons_succ]
                  refine wpAnyH_take (i := 33) (oi := ?oiex33) (v := ?vex33) ?hiex33 (by kernel_rfl) (by kernel_rfl) (by kernel_rfl) ?hqex33 ?hyex33 hHeld ?restex33
                  case hiex33 => exact rfl
                  case hqex33 => exact fun _ _ _ h => h
                  case hyex33 =>
                    refine Or.inl ⟨by rfl, ?_⟩
                    intro w hSw
                    (try dsimp only at hSw)
                    go_simp
                    (try with_reducible rfl)
                  try simp only [Act.put, List.getElem_toArray, List.getElem_cons_succ, List.getElem_cons_zero, List.setIfInBounds_toArray, List.set_cons_zero, List.set_cons_succ]
                  refine wpAnyH_take (i := 34) (oi := ?oiex34) (v := ?vex34) ?hiex34 (by kernel_rfl) (by kernel_rfl) (by kernel_rfl) ?hqex34 ?hyex34 hHeld ?restex34
                  case hiex34 => exact rfl
                  case hqex34 => exact fun _ _ _ h => h
                  case hyex34 =>
                    refine Or.inl ⟨by rfl, ?_⟩
                    intro w hSw
                    (try dsimp only at hSw)
                    go_simp
                    (try with_reducible rfl)
                  try simp only [Act.put, List.getElem_toArray, List.getElem_cons_succ, List.getElem_cons_zero, List.setIfInBounds_toArray, List.set_cons_zero, List.set_cons_succ]
                  refine wpAnyH_take (i := 35) (oi := ?oiex35) (v := ?vex35) ?hiex35 (by kernel_rfl) (by kernel_rfl) (by kernel_rfl) ?hqex35 ?hyex35 hHeld ?restex35
                  case hiex35 => exact rfl
                  case hqex35 => exact fun _ _ _ h => h
                  case hyex35 =>
                    refine Or.inl ⟨by rfl, ?_⟩
                    intro w hSw
                    (try dsimp only at hSw)
                    go_simp
                    (try with_reducible rfl)
                  try simp only [Act.put, List.getElem_toArray, List.getElem_cons_succ, List.getElem_cons_zero, List.setIfInBounds_toArray, List.set_cons_zero, List.set_cons_succ]
                  refine wpAnyH_take (i := 36) (oi := ?oiex36) (v := ?vex36) ?hiex36 (by kernel_rfl) (by kernel_rfl) (by kernel_rfl) ?hqex36 ?hyex36 hHeld ?restex36
                  case hiex36 => exact rfl
                  case hqex36 => exact fun _ _ _ h => h
                  case hyex36 =>
                    refine Or.inl ⟨by rfl, ?_⟩
                    intro w hSw
                    (try dsimp only at hSw)
                    go_simp
                    (try with_reducible rfl)
                  try simp only [Act.put, List.getElem_toArray, List.getElem_cons_succ, List.getElem_cons_zero, List.setIfInBounds_toArray, List.set_cons_zero, List.set_cons_succ]
                  refine wpAnyH_take (i := 37) (oi := ?oiex37) (v := ?vex37) ?hiex37 (by kernel_rfl) (by kernel_rfl) (by kernel_rfl) ?hqex37 ?hyex37 hHeld ?restex37
                  case hiex37 => exact rfl
                  case hqex37 => exact fun _ _ _ h => h
                  case hyex37 =>
                    refine Or.inl ⟨by rfl, ?_⟩
                    intro w hSw
                    (try dsimp only at hSw)
                    go_simp
                    (try with_reducible rfl)
                  try simp only [Act.put, List.getElem_toArray, List.getElem_cons_succ, List.getElem_cons_zero, List.setIfInBounds_toArray, List.set_cons_zero, List.set_cons_succ]
                  refine wpAnyH_ready (rs := [38]) (by kernel_rfl) (by simp) ?_
                  refine AllReadyH.cons (o := ?ooex38) ?hoex38 ?hkex38 AllReadyH.nil
                  case hoex38 => exact rfl
                  intro K hK
                  go_simp
                  refine (HVL.out _).mono ?_
                  rintro ex w3 ⟨rfl, hB3⟩
                  have HB3 := Lib.hid (HB.out.drew.trans (hB3.mono HB.out.size))
                  refine hK.out _ _ ?_ (fun hHeld => ?_)
                  · exact ⟨(hB3.cell (p := ⟨b, _, none⟩) (show b < wr.drew.heap.size from hlb)).trans c0, (hB3.cell (p := ⟨b, _, none⟩) (show b < wr.drew.heap.size from hlb)).trans c1, (hB3.cell (p := ⟨b, _, none⟩) (show b < wr.drew.heap.size from hlb)).trans c2, (hB3.cell (p := ⟨b, _, none⟩) (show b < wr.drew.heap.size from hlb)).trans c3, (hB3.cell (p := ⟨b, _, none⟩) (show b < wr.drew.heap.size from hlb)).trans c4, (hB3.cell (p := ⟨b, _, none⟩) (show b < wr.drew.heap.size from hlb)).trans d0⟩
                  clear hK K
                  try simp only [Act.put, List.getElem_toArray, List.getElem_cons_succ, List.getElem_cons_zero, List.setIfInBounds_toArray, List.set_cons_zero, List.set_cons_succ]
                  refine wpAnyH_take (i := 39) (oi := ?oiex39) (v := ?vex39) ?hiex39 (by kernel_rfl) (by kernel_rfl) (by kernel_rfl) ?hqex39 ?hyex39 hHeld ?restex39
                  case hiex39 => exact rfl
                  case hqex39 => exact fun _ _ _ h => h
                  case hyex39 =>
                    refine Or.inl ⟨by rfl, ?_⟩
                    intro w hSw
                    (try dsimp only at hSw)
                    go_simp
                    (try with_reducible rfl)
                  try simp only [Act.put, List.getElem_toArray, List.getElem_cons_succ, List.getElem_cons_zero, List.setIfInBounds_toArray, List.set_cons_zero, List.set_cons_succ]
                  refine wpAnyH_take (i := 40) (oi := ?oiex40) (v := ?vex40) ?hiex40 (by kernel_rfl) (by kernel_rfl) (by kernel_rfl) ?hqex40 ?hyex40 hHeld ?restex40
                  case hiex40 => exact rfl
                  case hqex40 => exact fun _ _ _ h => h
                  case hyex40 =>
                    refine Or.inl ⟨by rfl, ?_⟩
                    intro w hSw
                    (try dsimp only at hSw)
                    go_simp
                    (try with_reducible rfl)
                  try simp only [Act.put, List.getElem_toArray, List.getElem_cons_succ, List.getElem_cons_zero, List.setIfInBounds_toArray, List.set_cons_zero, List.set_cons_succ]
                  refine wpAnyH_done (by kernel_rfl) ?_ _
                  go_wp2_with fail
                  go_ret
                  exact ⟨ret_int HR.out.symm, HB3.out⟩
                · have HV2 := Lib.hid (vxTo_step HV.out he (by rw [hbt, hl]; rfl) (fun q2 e2 h h' => by rw [show q2 = k - 1 by omega, HE'.out] at h'; injection h' with h'; rw [← h']; omega))
                  rw [hl] at HVL
                  clear he hx hbt hl
                  go_upto_region 6 with fail
                  refine wp_region_held_drew (S := (fun w' => w'.cell? ⟨b, off + k * 5, none⟩ = some (.int .i64 e.at_) ∧ w'.cell? ⟨b, off + k * 5 + 1, none⟩ = some (.int .i64 e.ln.op) ∧ w'.cell? ⟨b, off + k * 5 + 2, none⟩ = some (.int .i64 e.ln.to) ∧ w'.cell? ⟨b, off + k * 5 + 3, none⟩ = some (.int .i64 e.ln.a) ∧ w'.cell? ⟨b, off + k * 5 + 4, none⟩ = some (.int .i64 e.ln.b) ∧ w'.cell? ⟨b, off + (k - 1) * 5, none⟩ = some (.int .i64 e'.at_))) (by kernel_rfl) ?_ (fun hHeld => ?_)
                  · exact ⟨c0, c1, c2, c3, c4, d0⟩
                  refine wpAnyH_take (i := 0) (oi := ?oiey00) (v := ?vey00) ?hiey00 (by kernel_rfl) (by kernel_rfl) (by kernel_rfl) ?hqey00 ?hyey00 hHeld ?restey00
                  case hiey00 => exact rfl
                  case hqey00 => exact fun _ _ _ h => h
                  case hyey00 =>
                    refine Or.inl ⟨by rfl, ?_⟩
                    intro w hSw
                    (try dsimp only at hSw)
                    go_simp
                    (try with_reducible rfl)
                  try simp only [Act.put, List.getElem_toArray, List.getElem_cons_succ, List.getElem_cons_zero, List.setIfInBounds_toArray, List.set_cons_zero, List.set_cons_succ]
                  refine wpAnyH_take (i := 1) (oi := ?oiey01) (v := ?vey01) ?hiey01 (by kernel_rfl) (by kernel_rfl) (by kernel_rfl) ?hqey01 ?hyey01 hHeld ?restey01
                  case hiey01 => exact rfl
                  case hqey01 => exact fun _ _ _ h => h
                  case hyey01 =>
                    refine Or.inl ⟨by rfl, ?_⟩
                    intro w hSw
                    (try dsimp only at hSw)
                    go_simp
                    (try with_reducible rfl)
                  try simp only [Act.put, List.getElem_toArray, List.getElem_cons_succ, List.getElem_cons_zero, List.setIfInBounds_toArray, List.set_cons_zero, List.set_cons_succ]
                  refine wpAnyH_take (i := 2) (oi := ?oiey02) (v := ?vey02) ?hiey02 (by kernel_rfl) (by kernel_rfl) (by kernel_rfl) ?hqey02 ?hyey02 hHeld ?restey02
                  case hiey02 => exact rfl
                  case hqey02 => exact fun _ _ _ h => h
                  case hyey02 =>
                    refine Or.inl ⟨by rfl, ?_⟩
                    intro w hSw
                    (try dsimp only at hSw)
                    go_simp
                    (try with_reducible rfl)
                  try simp only [Act.put, List.getElem_toArray, List.getElem_cons_succ, List.getElem_cons_zero, List.setIfInBounds_toArray, List.set_cons_zero, List.set_cons_succ]
                  refine wpAnyH_take (i := 3) (oi := ?oiey03) (v := ?vey03) ?hiey03 (by kernel_rfl) (by kernel_rfl) (by kernel_rfl) ?hqey03 ?hyey03 hHeld ?restey03
                  case hiey03 => exact rfl
                  case hqey03 => exact fun _ _ _ h => h
                  case hyey03 =>
                    refine Or.inl ⟨by rfl, ?_⟩
                    intro w hSw
                    (try dsimp only at hSw)
                    go_simp
                    (try with_reducible rfl)
                  try simp only [Act.put, List.getElem_toArray, List.getElem_cons_succ, List.getElem_cons_zero, List.setIfInBounds_toArray, List.set_cons_zero, List.set_cons_succ]
                  refine wpAnyH_take (i := 4) (oi := ?oiey04) (v := ?vey04) ?hiey04 (by kernel_rfl) (by kernel_rfl) (by kernel_rfl) ?hqey04 ?hyey04 hHeld ?restey04
                  case hiey04 => exact rfl
                  case hqey04 => exact fun _ _ _ h => h
                  case hyey04 =>
                    refine Or.inl ⟨by rfl, ?_⟩
                    intro w hSw
                    (try dsimp only at hSw)
                    go_simp
                    (try with_reducible rfl)
                  try simp only [Act.put, List.getElem_toArray, List.getElem_cons_succ, List.getElem_cons_zero, List.setIfInBounds_toArray, List.set_cons_zero, List.set_cons_succ]
                  refine wpAnyH_take (i := 5) (oi := ?oiey05) (v := ?vey05) ?hiey05 (by kernel_rfl) (by kernel_rfl) (by kernel_rfl) ?hqey05 ?hyey05 hHeld ?restey05
                  case hiey05 => exact rfl
                  case hqey05 => exact fun _ _ _ h => h
                  case hyey05 =>
                    refine Or.inl ⟨by rfl, ?_⟩
                    intro w hSw
                    (try dsimp only at hSw)
                    go_simp
                    (try with_reducible rfl)
                  try simp only [Act.put, List.getElem_toArray, List.getElem_cons_succ, List.getElem_cons_zero, List.setIfInBounds_toArray, List.set_cons_zero, List.set_cons_succ]
                  refine wpAnyH_take (i := 6) (oi := ?oiey06) (v := ?vey06) ?hiey06 (by kernel_rfl) (by kernel_rfl) (by kernel_rfl) ?hqey06 ?hyey06 hHeld ?restey06
                  case hiey06 => exact rfl
                  case hqey06 => exact fun _ _ _ h => h
                  case hyey06 =>
                    refine Or.inl ⟨by rfl, ?_⟩
                    intro w hSw
                    (try dsimp only at hSw)
                    go_simp
                    (try with_reducible rfl)
                  try simp only [Act.put, List.getElem_toArray, List.getElem_cons_succ, List.getElem_cons_zero, List.setIfInBounds_toArray, List.set_cons_zero, List.set_cons_succ]
                  refine wpAnyH_take (i := 7) (oi := ?oiey07) (v := ?vey07) ?hiey07 (by kernel_rfl) (by kernel_rfl) (by kernel_rfl) ?hqey07 ?hyey07 hHeld ?restey07
                  case hiey07 => exact rfl
                  case hqey07 => exact fun _ _ _ h => h
                  case hyey07 =>
                    refine Or.inl ⟨by rfl, ?_⟩
                    intro w hSw
                    (try dsimp only at hSw)
                    go_simp
                    (try with_reducible rfl)
                  try simp only [Act.put, List.getElem_toArray, List.getElem_cons_succ, List.getElem_cons_zero, List.setIfInBounds_toArray, List.set_cons_zero, List.set_cons_succ]
                  refine wpAnyH_take (i := 8) (oi := ?oiey08) (v := ?vey08) ?hiey08 (by kernel_rfl) (by kernel_rfl) (by kernel_rfl) ?hqey08 ?hyey08 hHeld ?restey08
                  case hiey08 => exact rfl
                  case hqey08 => exact fun _ _ _ h => h
                  case hyey08 =>
                    refine Or.inl ⟨by rfl, ?_⟩
                    intro w hSw
                    (try dsimp only at hSw)
                    go_simp
                    (try with_reducible rfl)
                  try simp only [Act.put, List.getElem_toArray, List.getElem_cons_succ, List.getElem_cons_zero, List.setIfInBounds_toArray, List.set_cons_zero, List.set_cons_succ]
                  refine wpAnyH_take (i := 9) (oi := ?oiey09) (v := ?vey09) ?hiey09 (by kernel_rfl) (by kernel_rfl) (by kernel_rfl) ?hqey09 ?hyey09 hHeld ?restey09
                  case hiey09 => exact rfl
                  case hqey09 => exact fun _ _ _ h => h
                  case hyey09 =>
                    refine Or.inl ⟨by rfl, ?_⟩
                    intro w hSw
                    (try dsimp only at hSw)
                    go_simp
                    (try with_reducible rfl)
                  try simp only [Act.put, List.getElem_toArray, List.getElem_cons_succ, List.getElem_cons_zero, List.setIfInBounds_toArray, List.set_cons_zero, List.set_cons_succ]
                  refine wpAnyH_take (i := 10) (oi := ?oiey10) (v := ?vey10) ?hiey10 (by kernel_rfl) (by kernel_rfl) (by kernel_rfl) ?hqey10 ?hyey10 hHeld ?restey10
                  case hiey10 => exact rfl
                  case hqey10 => exact fun _ _ _ h => h
                  case hyey10 =>
                    refine Or.inl ⟨by rfl, ?_⟩
                    intro w hSw
                    (try dsimp only at hSw)
                    go_simp
                    (try with_reducible rfl)
                  try simp only [Act.put, List.getElem_toArray, List.getElem_cons_succ, List.getElem_cons_zero, List.setIfInBounds_toArray, List.set_cons_zero, List.set_cons_succ]
                  refine wpAnyH_take (i := 11) (oi := ?oiey11) (v := ?vey11) ?hiey11 (by kernel_rfl) (by kernel_rfl) (by kernel_rfl) ?hqey11 ?hyey11 hHeld ?restey11
                  case hiey11 => exact rfl
                  case hqey11 => exact fun _ _ _ h => h
                  case hyey11 =>
                    refine Or.inl ⟨by rfl, ?_⟩
                    intro w hSw
                    (try dsimp only at hSw)
                    go_simp
                    (try with_reducible rfl)
                  try simp only [Act.put, List.getElem_toArray, List.getElem_cons_succ, List.getElem_cons_zero, List.setIfInBounds_toArray, List.set_cons_zero, List.set_cons_succ]
                  refine wpAnyH_take (i := 12) (oi := ?oiey12) (v := ?vey12) ?hiey12 (by kernel_rfl) (by kernel_rfl) (by kernel_rfl) ?hqey12 ?hyey12 hHeld ?restey12
                  case hiey12 => exact rfl
                  case hqey12 => exact fun _ _ _ h => h
                  case hyey12 =>
                    refine Or.inl ⟨by rfl, ?_⟩
                    intro w hSw
                    (try dsimp only at hSw)
                    go_simp
                    (try with_reducible rfl)
                  try simp only [Act.put, List.getElem_toArray, List.getElem_cons_succ, List.getElem_cons_zero, List.setIfInBounds_toArray, List.set_cons_zero, List.set_cons_succ]
                  refine wpAnyH_take (i := 13) (oi := ?oiey13) (v := ?vey13) ?hiey13 (by kernel_rfl) (by kernel_rfl) (by kernel_rfl) ?hqey13 ?hyey13 hHeld ?restey13
                  case hiey13 => exact rfl
                  case hqey13 => exact fun _ _ _ h => h
                  case hyey13 =>
                    refine Or.inl ⟨by rfl, ?_⟩
                    intro w hSw
                    (try dsimp only at hSw)
                    go_simp
                    (try with_reducible rfl)
                  try simp only [Act.put, List.getElem_toArray, List.getElem_cons_succ, List.getElem_cons_zero, List.setIfInBounds_toArray, List.set_cons_zero, List.set_cons_succ]
                  refine wpAnyH_take (i := 14) (oi := ?oiey14) (v := ?vey14) ?hiey14 (by kernel_rfl) (by kernel_rfl) (by kernel_rfl) ?hqey14 ?hyey14 hHeld ?restey14
                  case hiey14 => exact rfl
                  case hqey14 => exact fun _ _ _ h => h
                  case hyey14 =>
                    refine Or.inl ⟨by rfl, ?_⟩
                    intro w hSw
                    (try dsimp only at hSw)
                    go_simp
                    (try with_reducible rfl)
                  try simp only [Act.put, List.getElem_toArray, List.getElem_cons_succ, List.getElem_cons_zero, List.setIfInBounds_toArray, List.set_cons_zero, List.set_cons_succ]
                  refine wpAnyH_take (i := 15) (oi := ?oiey15) (v := ?vey15) ?hiey15 (by kernel_rfl) (by kernel_rfl) (by kernel_rfl) ?hqey15 ?hyey15 hHeld ?restey15
                  case hiey15 => exact rfl
                  case hqey15 => exact fun _ _ _ h => h
                  case hyey15 =>
                    refine Or.inl ⟨by rfl, ?_⟩
                    intro w hSw
                    (try dsimp only at hSw)
                    go_simp
                    (try with_reducible rfl)
                  try simp only [Act.put, List.getElem_toArray, List.getElem_cons_succ, List.getElem_cons_zero, List.setIfInBounds_toArray, List.set_cons_zero, List.set_cons_succ]
                  refine wpAnyH_take (i := 16) (oi := ?oiey16) (v := ?vey16) ?hiey16 (by kernel_rfl) (by kernel_rfl) (by kernel_rfl) ?hqey16 ?hyey16 hHeld ?restey16
                  case hiey16 => exact rfl
                  case hqey16 => exact fun _ _ _ h => h
                  case hyey16 =>
                    refine Or.inl ⟨by rfl, ?_⟩
                    intro w hSw
                    (try dsimp only at hSw)
                    go_simp
                    (try with_reducible rfl)
                  try simp only [Act.put, List.getElem_toArray, List.getElem_cons_succ, List.getElem_cons_zero, List.setIfInBounds_toArray, List.set_cons_zero, List.set_cons_succ]
                  refine wpAnyH_take (i := 17) (oi := ?oiey17) (v := ?vey17) ?hiey17 (by kernel_rfl) (by kernel_rfl) (by kernel_rfl) ?hqey17 ?hyey17 hHeld ?restey17
                  case hiey17 => exact rfl
                  case hqey17 => exact fun _ _ _ h => h
                  case hyey17 =>
                    refine Or.inl ⟨by rfl, ?_⟩
                    intro w hSw
                    (try dsimp only at hSw)
                    go_simp
                    (try with_reducible rfl)
                  try simp only [Act.put, List.getElem_toArray, List.getElem_cons_succ, List.getElem_cons_zero, List.setIfInBounds_toArray, List.set_cons_zero, List.set_cons_succ]
                  refine wpAnyH_take (i := 18) (oi := ?oiey18) (v := ?vey18) ?hiey18 (by kernel_rfl) (by kernel_rfl) (by kernel_rfl) ?hqey18 ?hyey18 hHeld ?restey18
                  case hiey18 => exact rfl
                  case hqey18 => exact fun _ _ _ h => h
                  case hyey18 =>
                    refine Or.inl ⟨by rfl, ?_⟩
                    intro w hSw
                    (try dsimp only at hSw)
                    go_simp
                    (try with_reducible rfl)
                  try simp only [Act.put, List.getElem_toArray, List.getElem_cons_succ, List.getElem_cons_zero, List.setIfInBounds_toArray, List.set_cons_zero, List.set_cons_succ]
                  refine wpAnyH_take (i := 19) (oi := ?oiey19) (v := ?vey19) ?hiey19 (by kernel_rfl) (by kernel_rfl) (by kernel_rfl) ?hqey19 ?hyey19 hHeld ?restey19
                  case hiey19 => exact rfl
                  case hqey19 => exact fun _ _ _ h => h
                  case hyey19 =>
                    refine Or.inl ⟨by rfl, ?_⟩
                    intro w hSw
                    (try dsimp only at hSw)
                    go_simp
                    (try with_reducible rfl)
                  try simp only [Act.put, List.getElem_toArray, List.getElem_cons_succ, List.getElem_cons_zero, List.setIfInBounds_toArray, List.set_cons_zero, List.set_cons_succ]
                  refine wpAnyH_take (i := 20) (oi := ?oiey20) (v := ?vey20) ?hiey20 (by kernel_rfl) (by kernel_rfl) (by kernel_rfl) ?hqey20 ?hyey20 hHeld ?restey20
                  case hiey20 => exact rfl
                  case hqey20 => exact fun _ _ _ h => h
                  case hyey20 =>
                    refine Or.inl ⟨by rfl, ?_⟩
                    intro w hSw
                    (try dsimp only at hSw)
                    go_simp
                    (try with_reducible rfl)
                  try simp only [Act.put, List.getElem_toArray, List.getElem_cons_succ, List.getElem_cons_zero, List.setIfInBounds_toArray, List.set_cons_zero, List.set_cons_succ]
                  refine wpAnyH_take (i := 21) (oi := ?oiey21) (v := ?vey21) ?hiey21 (by kernel_rfl) (by kernel_rfl) (by kernel_rfl) ?hqey21 ?hyey21 hHeld ?restey21
                  case hiey21 => exact rfl
                  case hqey21 => exact fun _ _ _ h => h
                  case hyey21 =>
                    refine Or.inl ⟨by rfl, ?_⟩
                    intro w hSw
                    (try dsimp only at hSw)
                    go_simp
                    (try with_reducible rfl)
                  try simp only [Act.put, List.getElem_toArray, List.getElem_cons_succ, List.getElem_cons_zero, List.setIfInBounds_toArray, List.set_cons_zero, List.set_cons_succ]
                  refine wpAnyH_take (i := 22) (oi := ?oiey22) (v := ?vey22) ?hiey22 (by kernel_rfl) (by kernel_rfl) (by kernel_rfl) ?hqey22 ?hyey22 hHeld ?restey22
                  case hiey22 => exact rfl
                  case hqey22 => exact fun _ _ _ h => h
                  case hyey22 =>
                    refine Or.inl ⟨by rfl, ?_⟩
                    intro w hSw
                    (try dsimp only at hSw)
                    go_simp
                    (try with_reducible rfl)
                  try simp only [Act.put, List.getElem_toArray, List.getElem_cons_succ, List.getElem_cons_zero, List.setIfInBounds_toArray, List.set_cons_zero, List.set_cons_succ]
                  refine wpAnyH_take (i := 23) (oi := ?oiey23) (v := ?vey23) ?hiey23 (by kernel_rfl) (by kernel_rfl) (by kernel_rfl) ?hqey23 ?hyey23 hHeld ?restey23
                  case hiey23 => exact rfl
                  case hqey23 => exact fun _ _ _ h => h
                  case hyey23 =>
                    refine Or.inl ⟨by rfl, ?_⟩
                    intro w hSw
                    (try dsimp only at hSw)
                    go_simp
                    (try with_reducible rfl)
                  try simp only [Act.put, List.getElem_toArray, List.getElem_cons_succ, List.getElem_cons_zero, List.setIfInBounds_toArray, List.set_cons_zero, List.set_cons_succ]
                  refine wpAnyH_take (i := 24) (oi := ?oiey24) (v := ?vey24) ?hiey24 (by kernel_rfl) (by kernel_rfl) (by kernel_rfl) ?hqey24 ?hyey24 hHeld ?restey24
                  case hiey24 => exact rfl
                  case hqey24 => exact fun _ _ _ h => h
                  case hyey24 =>
                    refine Or.inl ⟨by rfl, ?_⟩
                    intro w hSw
                    (try dsimp only at hSw)
                    go_simp
                    (try with_reducible rfl)
                  try simp only [Act.put, List.getElem_toArray, List.getElem_cons_succ, List.getElem_cons_zero, List.setIfInBounds_toArray, List.set_cons_zero, List.set_cons_succ]
                  refine wpAnyH_take (i := 25) (oi := ?oiey25) (v := ?vey25) ?hiey25 (by kernel_rfl) (by kernel_rfl) (by kernel_rfl) ?hqey25 ?hyey25 hHeld ?restey25
                  case hiey25 => exact rfl
                  case hqey25 => exact fun _ _ _ h => h
                  case hyey25 =>
                    refine Or.inl ⟨by rfl, ?_⟩
                    intro w hSw
                    (try dsimp only at hSw)
                    go_simp
                    (try with_reducible rfl)
                  try simp only [Act.put, List.getElem_toArray, List.getElem_cons_succ, List.getElem_cons_zero, List.setIfInBounds_toArray, List.set_cons_zero, List.set_cons_succ]
                  refine wpAnyH_take (i := 26) (oi := ?oiey26) (v := ?vey26) ?hiey26 (by kernel_rfl) (by kernel_rfl) (by kernel_rfl) ?hqey26 ?hyey26 hHeld ?restey26
                  case hiey26 => exact rfl
                  case hqey26 => exact fun _ _ _ h => h
                  case hyey26 =>
                    refine Or.inl ⟨by rfl, ?_⟩
                    intro w hSw
                    (try dsimp only at hSw)
                    go_simp
                    (try with_reducible rfl)
                  try simp only [Act.put, List.getElem_toArray, List.getElem_cons_succ, List.getElem_cons_zero, List.setIfInBounds_toArray, List.set_cons_zero, List.set_cons_succ]
                  refine wpAnyH_take (i := 27) (oi := ?oiey27) (v := ?vey27) ?hiey27 (by kernel_rfl) (by kernel_rfl) (by kernel_rfl) ?hqey27 ?hyey27 hHeld ?restey27
                  case hiey27 => exact rfl
                  case hqey27 => exact fun _ _ _ h => h
                  case hyey27 =>
                    refine Or.inl ⟨by rfl, ?_⟩
                    intro w hSw
                    (try dsimp only at hSw)
                    go_simp
                    (try with_reducible rfl)
                  try simp only [Act.put, List.getElem_toArray, List.getElem_cons_succ, List.getElem_cons_zero, List.setIfInBounds_toArray, List.set_cons_zero, List.set_cons_succ]
                  refine wpAnyH_take (i := 28) (oi := ?oiey28) (v := ?vey28) ?hiey28 (by kernel_rfl) (by kernel_rfl) (by kernel_rfl) ?hqey28 ?hyey28 hHeld ?restey28
                  case hiey28 => exact rfl
                  case hqey28 => exact fun _ _ _ h => h
                  case hyey28 =>
                    refine Or.inl ⟨by rfl, ?_⟩
                    intro w hSw
                    (try dsimp only at hSw)
                    go_simp
                    (try with_reducible rfl)
                  try simp only [Act.put, List.getElem_toArray, List.getElem_cons_succ, List.getElem_cons_zero, List.setIfInBounds_toArray, List.set_cons_zero, List.set_cons_succ]
                  refine wpAnyH_take (i := 29) (oi := ?oiey29) (v := ?vey29) ?hiey29 (by kernel_rfl) (by kernel_rfl) (by kernel_rfl) ?hqey29 ?hyey29 hHeld ?restey29
                  case hiey29 => exact rfl
                  case hqey29 => exact fun _ _ _ h => h
                  case hyey29 =>
                    refine Or.inl ⟨by rfl, ?_⟩
                    intro w hSw
                    (try dsimp only at hSw)
                    go_simp
                    (try with_reducible rfl)
                  try simp only [Act.put, List.getElem_toArray, List.getElem_cons_succ, List.getElem_cons_zero, List.setIfInBounds_toArray, List.set_cons_zero, List.set_cons_succ]
                  refine wpAnyH_take (i := 30) (oi := ?oiey30) (v := ?vey30) ?hiey30 (by kernel_rfl) (by kernel_rfl) (by kernel_rfl) ?hqey30 ?hyey30 hHeld ?restey30
                  case hiey30 => exact rfl
                  case hqey30 => exact fun _ _ _ h => h
                  case hyey30 =>
                    refine Or.inl ⟨by rfl, ?_⟩
                    intro w hSw
                    (try dsimp only at hSw)
                    go_simp
                    (try with_reducible rfl)
                  try simp only [Act.put, List.getElem_toArray, List.getElem_cons_succ, List.getElem_cons_zero, List.setIfInBounds_toArray, List.set_cons_zero, List.set_cons_succ]
                  refine wpAnyH_take (i := 31) (oi := ?oiey31) (v := ?vey31) ?hiey31 (by kernel_rfl) (by kernel_rfl) (by kernel_rfl) ?hqey31 ?hyey31 hHeld ?restey31
                  case hiey31 => exact rfl
                  case hqey31 => exact fun _ _ _ h => h
                  case hyey31 =>
                    refine Or.inl ⟨by rfl, ?_⟩
                    intro w hSw
                    (try dsimp only at hSw)
                    go_simp
                    (try with_reducible rfl)
                  try simp only [Act.put, List.getElem_toArray, List.getElem_cons_succ, List.getElem_cons_zero, List.setIfInBounds_toArray, List.set_cons_zero, List.set_cons_succ]
                  refine wpAnyH_take (i := 32) (oi := ?oiey32) (v := ?vey32) ?hiey32 (by kernel_rfl) (by kernel_rfl) (by kernel_rfl) ?hqey32 ?hyey32 hHeld ?restey32
                  case hiey32 => exact rfl
                  case hqey32 => exact fun _ _ _ h => h
                  case hyey32 =>
                    refine Or.inl ⟨by rfl, ?_⟩
                    intro w hSw
                    (try dsimp only at hSw)
                    go_simp
                    (try with_reducible rfl)
                  try simp only [Act.put, List.getElem_toArray, List.getElem_cons_succ, List.getElem_cons_zero, List.setIfInBounds_toArray, List.set_cons_zero, List.set_cons_succ]
                  refine wpAnyH_take (i := 33) (oi := ?oiey33) (v := ?vey33) ?hiey33 (by kernel_rfl) (by kernel_rfl) (by kernel_rfl) ?hqey33 ?hyey33 hHeld ?restey33
                  case hiey33 => exact rfl
                  case hqey33 => exact fun _ _ _ h => h
                  case hyey33 =>
                    refine Or.inl ⟨by rfl, ?_⟩
                    intro w hSw
                    (try dsimp only at hSw)
                    go_simp
                    (try with_reducible rfl)
                  try simp only [Act.put, List.getElem_toArray, List.getElem_cons_succ, List.getElem_cons_zero, List.setIfInBounds_toArray, List.set_cons_zero, List.set_cons_succ]
                  refine wpAnyH_take (i := 34) (oi := ?oiey34) (v := ?vey34) ?hiey34 (by kernel_rfl) (by kernel_rfl) (by kernel_rfl) ?hqey34 ?hyey34 hHeld ?restey34
                  case hiey34 => exact rfl
                  case hqey34 => exact fun _ _ _ h => h
                  case hyey34 =>
                    refine Or.inl ⟨by rfl, ?_⟩
                    intro w hSw
                    (try dsimp only at hSw)
                    go_simp
                    (try with_reducible rfl)
                  try simp only [Act.put, List.getElem_toArray, List.getElem_cons_succ, List.getElem_cons_zero, List.setIfInBounds_toArray, List.set_cons_zero, List.set_cons_succ]
                  refine wpAnyH_take (i := 35) (oi := ?oiey35) (v := ?vey35) ?hiey35 (by kernel_rfl) (by kernel_rfl) (by kernel_rfl) ?hqey35 ?hyey35 hHeld ?restey35
                  case hiey35 => exact rfl
                  case hqey35 => exact fun _ _ _ h => h
                  case hyey35 =>
                    refine Or.inl ⟨by rfl, ?_⟩
                    intro w hSw
                    (try dsimp only at hSw)
                    go_simp
                    (try with_reducible rfl)
                  try simp only [Act.put, List.getElem_toArray, List.getElem_cons_succ, List.getElem_cons_zero, List.setIfInBounds_toArray, List.set_cons_zero, List.set_cons_succ]
                  refine wpAnyH_take (i := 36) (oi := ?oiey36) (v := ?vey36) ?hiey36 (by kernel_rfl) (by kernel_rfl) (by kernel_rfl) ?hqey36 ?hyey36 hHeld ?restey36
                  case hiey36 => exact rfl
                  case hqey36 => exact fun _ _ _ h => h
                  case hyey36 =>
                    refine Or.inl ⟨by rfl, ?_⟩
                    intro w hSw
                    (try dsimp only at hSw)
                    go_simp
                    (try with_reducible rfl)
                  try simp only [Act.put, List.getElem_toArray, List.getElem_cons_succ, List.getElem_cons_zero, List.setIfInBounds_toArray, List.set_cons_zero, List.set_cons_succ]
                  refine wpAnyH_take (i := 37) (oi := ?oiey37) (v := ?vey37) ?hiey37 (by kernel_rfl) (by kernel_rfl) (by kernel_rfl) ?hqey37 ?hyey37 hHeld ?restey37
                  case hiey37 => exact rfl
                  case hqey37 => exact fun _ _ _ h => h
                  case hyey37 =>
                    refine Or.inl ⟨by rfl, ?_⟩
                    intro w hSw
                    (try dsimp only at hSw)
                    go_simp
                    (try with_reducible rfl)
                  try simp only [Act.put, List.getElem_toArray, List.getElem_cons_succ, List.getElem_cons_zero, List.setIfInBounds_toArray, List.set_cons_zero, List.set_cons_succ]
                  refine wpAnyH_ready (rs := [38]) (by kernel_rfl) (by simp) ?_
                  refine AllReadyH.cons (o := ?ooey38) ?hoey38 ?hkey38 AllReadyH.nil
                  case hoey38 => exact rfl
                  intro K hK
                  go_simp
                  refine (HVL.out _).mono ?_
                  rintro ex w3 ⟨rfl, hB3⟩
                  have HB3 := Lib.hid (HB.out.drew.trans (hB3.mono HB.out.size))
                  refine hK.out _ _ ?_ (fun hHeld => ?_)
                  · exact ⟨(hB3.cell (p := ⟨b, _, none⟩) (show b < wr.drew.heap.size from hlb)).trans c0, (hB3.cell (p := ⟨b, _, none⟩) (show b < wr.drew.heap.size from hlb)).trans c1, (hB3.cell (p := ⟨b, _, none⟩) (show b < wr.drew.heap.size from hlb)).trans c2, (hB3.cell (p := ⟨b, _, none⟩) (show b < wr.drew.heap.size from hlb)).trans c3, (hB3.cell (p := ⟨b, _, none⟩) (show b < wr.drew.heap.size from hlb)).trans c4, (hB3.cell (p := ⟨b, _, none⟩) (show b < wr.drew.heap.size from hlb)).trans d0⟩
                  clear hK K
                  try simp only [Act.put, List.getElem_toArray, List.getElem_cons_succ, List.getElem_cons_zero, List.setIfInBounds_toArray, List.set_cons_zero, List.set_cons_succ]
                  refine wpAnyH_take (i := 39) (oi := ?oiey39) (v := ?vey39) ?hiey39 (by kernel_rfl) (by kernel_rfl) (by kernel_rfl) ?hqey39 ?hyey39 hHeld ?restey39
                  case hiey39 => exact rfl
                  case hqey39 => exact fun _ _ _ h => h
                  case hyey39 =>
                    refine Or.inl ⟨by rfl, ?_⟩
                    intro w hSw
                    (try dsimp only at hSw)
                    go_simp
                    (try with_reducible rfl)
                  try simp only [Act.put, List.getElem_toArray, List.getElem_cons_succ, List.getElem_cons_zero, List.setIfInBounds_toArray, List.set_cons_zero, List.set_cons_succ]
                  refine wpAnyH_take (i := 40) (oi := ?oiey40) (v := ?vey40) ?hiey40 (by kernel_rfl) (by kernel_rfl) (by kernel_rfl) ?hqey40 ?hyey40 hHeld ?restey40
                  case hiey40 => exact rfl
                  case hqey40 => exact fun _ _ _ h => h
                  case hyey40 =>
                    refine Or.inl ⟨by rfl, ?_⟩
                    intro w hSw
                    (try dsimp only at hSw)
                    go_simp
                    (try with_reducible rfl)
                  try simp only [Act.put, List.getElem_toArray, List.getElem_cons_succ, List.getElem_cons_zero, List.setIfInBounds_toArray, List.set_cons_zero, List.set_cons_succ]
                  refine wpAnyH_done (by kernel_rfl) ?_ _
                  go_wp2_with fail
                  go_roundw
                  case rel => exact ⟨k + 1, by omega, by go_num, HV2.out, HB3.out⟩
                  case measure => simp [intOf]; omega
      · obtain rfl : k = xs.length := by omega
        have HR := Lib.hid (show vx xs = 0 from by
          have h := HV.out
          unfold vxTo at h
          rw [List.take_length] at h
          exact vx_good h4 h.1 h.2)
        go_wp2_with fail
        go_ret
        exact ⟨ret_int HR.out.symm, HB.out⟩
  · have HE := Lib.hid (vx_large (show 4 < xs.length by omega))
    have h5 : 4 < xs.length := by omega
    clear h4 hx
    go_enter Try.func45, Try.ntmps45
    go_wp2_with fail
    go_ret
    exact ⟨ret_int HE.out.symm, Below.refl _ _⟩

end Go.Proofs.Ytikblaebfpdngaa

/- Do, Inverse of the document's side (patches): contracts. -/
set_option linter.unusedVariables false
set_option linter.unusedSimpArgs false
namespace Go.Proofs.Ytikblaebfpdngaa
open Go.RowKit Tinker

/-- Whether all places are lines, for the document's side: codes. -/
def plcC (ps : List L) (xs : List E) : Int := if xs.all (fun e => decide (e.at_ < (ps.length : Int))) then 0 else 4
theorem plc_vpx {ps : List L} {xs : List E} (h : fe (vp ps) (vx xs) = 0) : vpx ps xs 0 = plcC ps xs := by
  obtain ⟨h1, h2⟩ := fe_0 h
  unfold vpx plcC
  rw [h]
  rw [if_pos (show fe (0 : Int) 0 = 0 from rfl)]
  have h3 := (vx_ok h2).2.2
  have : allBtw (pl xs) 0 ((ps.length : Int) - 1) = xs.all (fun e => decide (e.at_ < (ps.length : Int))) := by
    unfold allBtw pl
    rw [List.all_map, Bool.eq_iff_iff, List.all_eq_true, List.all_eq_true]
    constructor
    · intro h e he
      have := btw_true.1 (h e he)
      exact decide_eq_true (by omega)
    · intro h e he
      have := of_decide_eq_true (h e he)
      have := h3 e he
      exact btw_true.2 (by omega)
  rw [this]

/-- done -/
theorem done_mark : True := trivial
end Go.Proofs.Ytikblaebfpdngaa
