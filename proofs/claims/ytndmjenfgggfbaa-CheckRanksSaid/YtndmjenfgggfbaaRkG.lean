/- The document's Rank: contract. -/
import Derived.Test.YtndmjenfgggfbaaRkF
import Derived.Test.YtndmjenfgggfbaaHas
set_option linter.unusedVariables false
set_option linter.unusedSimpArgs false
namespace Go.Proofs.Ytndmjenfgggfbaa
open Go.RowKit Tinker

/-- The place of the best one, or -1. -/
def bI : Option Nat → Int
  | none => -1
  | some b => (b : Int)
/-- How long a slice is. -/
def slLen : Value → Nat
  | .slice _ n _ => n
  | _ => 0

set_option maxRecDepth 100000 in
set_option maxHeartbeats 4000000 in
theorem rRank_any (a g : Option Addr) (ca cap : Nat) (ps : List L) (ts : List T) (w : World) (hp : LinesAt w a ps) (hts : TestsAt w g ts) :
    Calls Try.prog 41 #[.slice a ps.length ca, .slice g ts.length cap] w (GivesRk ps ts w) := by
  obtain ⟨i0, hi0, hz0, hz1', hz2'⟩ := info_parts info_int
  have HS := Lib.hid (fun w hp hts => rScores_any a g ca cap ps ts w hp hts)
  unfold GivesRk
  by_cases hz : vpt ps ts = 0
  · obtain ⟨h1, h2⟩ := vpt_ok hz
    have h8 := (vp_ok h1).1
    have t8 := (vts_ok h2).1
    have HOK := Lib.hid (fun (i : Nat) (hi : i < ps.length) => scQ_ok (ts := ts) hi t8)
    have HSG := Lib.hid (fun (i : Nat) (hi : i < ps.length) => scL_get (ts := ts) hi)
    have HPOS := Lib.hid (scL_pos ps ts)
    have hsl := scL_length ps ts
    have hgd := fun (i : Nat) (hi : i < ps.length) => scL_getD (ts := ts) hi
    have HRK := Lib.hid (fun (ns : List Nat) (h : Ranked (scL ps ts) ps.length ns) => show IsRank ps ts (ns.map Int.ofNat) by unfold IsRank; rw [if_pos hz]; exact ⟨ns, rfl, h⟩)
    rw [hz]
    rw [scA_ok hz, hz] at HS
    generalize scL ps ts = qs at HS HSG HPOS hsl hgd HRK
    have HGD := Lib.hid hgd
    have HSL := Lib.hid hsl
    clear hz h1 h2 hgd hsl
    go_enter Try.func41, Try.ntmps41
    go_wp2_with fail
    refine (HS.out _ hp hts).mono ?_
    rintro e w1 ⟨qa, qc, rfl, hq, hB⟩
    rw [HSL.out]
    have HQ := Lib.hid hq
    have HB := Lib.hid hB
    clear hq hB HS
    go_wp2_with fail
    go_loopw [8] (fun s8 wr => ∃ (ns : List Nat), RkI qs ps.length ns ∧ wr.ownsRow w1.heap.size 3 1 s8 ns.length ((ns.map Int.ofNat).map (Value.int .i64)) ∧ Below w1.heap.size w1 wr) (fun s8 _ => ps.length - slLen s8)
    case atStart => exact ⟨[], RkI.nil _ _, World.ownsRow_nil _ _ _ _, Below.refl _ _⟩
    case round =>
      obtain ⟨ns, hrk, hown, hB2⟩ := hrel
      obtain ⟨a8, c8, rfl⟩ := own_slice hown
      have hle := hrk.le
      have hml : (ns.map Int.ofNat).length = ns.length := by simp
      have HR := Lib.hid hrk
      have HOW := Lib.hid hown
      have HB2 := Lib.hid hB2
      have HNL := Lib.hid hml
      have HN := Lib.hid (fun (b : Nat) (h : bst qs ps.length ns ps.length (some b)) => hrk.step h)
      have HNN := Lib.hid (fun (h : bst qs ps.length ns ps.length none) (hlt : ns.length < ps.length) => show False by
        have := all_len ps.length ns h; omega)
      have HI := Lib.hid (show IntsAt wr a8 (ns.map Int.ofNat) from (ints_of_own hown).1)
      clear hown hrk hml hB2
      by_cases hlt : ns.length < ps.length
      · obtain ⟨wo, rfl⟩ : ∃ wo : World, wo = wr := ⟨_, rfl⟩
        go_wp2_with fail
        go_loopw [9, 10] (fun s9 s10 wr => ∃ (i : Nat) (b : Option Nat), i ≤ ps.length ∧ s10 = .int .i64 i ∧ s9 = .int .i64 (bI b) ∧ bst qs ps.length ns i b ∧ Below wo.heap.size wo wr) (fun _ s10 _ => ps.length - (intOf s10).toNat)
        case atStart => exact ⟨0, none, Nat.zero_le _, rfl, rfl, bst_zero _ _ _, Below.refl _ _⟩
        case round =>
          obtain ⟨i, bo, hi, rfl, rfl, hb, hJ⟩ := hrel
          have HBS := Lib.hid hb
          have HJ := Lib.hid hJ
          clear hb
          by_cases hlt2 : i < ps.length
          · have HZ := Lib.hid (HI.out.below hJ (Nat.le_refl _))
            have hH := fun w hz => rHas_any a8 c8 (ns.map Int.ofNat) (i : Int) w hz (by rw [HNL.out]; omega)
            rw [HNL.out, hasB_nat] at hH
            by_cases hin : i ∈ ns
            · rw [decide_eq_true hin] at hH
              have HH := Lib.hid hH
              have HY := Lib.hid (bst_in HBS.out hin)
              clear hH hJ hin
              go_wp2_with fail
              refine wp_region_held_drew (S := (fun _ => True)) (by kernel_rfl) ?_ (fun hHeld => ?_)
              · exact trivial
              refine wpAnyH_take (i := 0) (oi := ?oiu00) (v := ?vu00) ?hiu00 (by kernel_rfl) (by kernel_rfl) (by kernel_rfl) ?hqu00 ?hyu00 hHeld ?restu00
              case hiu00 => exact rfl
              case hqu00 => exact fun _ _ _ h => h
              case hyu00 =>
                refine Or.inl ⟨by rfl, ?_⟩
                intro w hSw
                (try dsimp only at hSw)
                go_simp
                (try with_reducible rfl)
              try simp only [Act.put, List.getElem_toArray, List.getElem_cons_succ, List.getElem_cons_zero, List.setIfInBounds_toArray, List.set_cons_zero, List.set_cons_succ]
              refine wpAnyH_take (i := 1) (oi := ?oiu01) (v := ?vu01) ?hiu01 (by kernel_rfl) (by kernel_rfl) (by kernel_rfl) ?hqu01 ?hyu01 hHeld ?restu01
              case hiu01 => exact rfl
              case hqu01 => exact fun _ _ _ h => h
              case hyu01 =>
                refine Or.inl ⟨by rfl, ?_⟩
                intro w hSw
                (try dsimp only at hSw)
                go_simp
                (try with_reducible rfl)
              try simp only [Act.put, List.getElem_toArray, List.getElem_cons_succ, List.getElem_cons_zero, List.setIfInBounds_toArray, List.set_cons_zero, List.set_cons_succ]
              refine wpAnyH_ready (rs := [2]) (by kernel_rfl) (by simp) ?_
              refine AllReadyH.cons (o := ?oou02) ?hou02 ?hku02 AllReadyH.nil
              case hou02 => exact rfl
              intro K hK
              go_simp
              refine (HH.out _ (HZ.out.below (Below.refl _ _).drew (Nat.le_refl _))).mono ?_; rintro e wa ⟨rfl, rfl⟩
              refine hK.out _ _ ?_ (fun hHeld => ?_)
              · exact trivial
              clear hK K
              try simp only [Act.put, List.getElem_toArray, List.getElem_cons_succ, List.getElem_cons_zero, List.setIfInBounds_toArray, List.set_cons_zero, List.set_cons_succ]
              refine wpAnyH_take (i := 3) (oi := ?oiu03) (v := ?vu03) ?hiu03 (by kernel_rfl) (by kernel_rfl) (by kernel_rfl) ?hqu03 ?hyu03 hHeld ?restu03
              case hiu03 => exact rfl
              case hqu03 => exact fun _ _ _ h => h
              case hyu03 =>
                refine Or.inl ⟨by rfl, ?_⟩
                intro w hSw
                (try dsimp only at hSw)
                go_simp
                (try with_reducible rfl)
              try simp only [Act.put, List.getElem_toArray, List.getElem_cons_succ, List.getElem_cons_zero, List.setIfInBounds_toArray, List.set_cons_zero, List.set_cons_succ]
              refine wpAnyH_take (i := 4) (oi := ?oiu04) (v := ?vu04) ?hiu04 (by kernel_rfl) (by kernel_rfl) (by kernel_rfl) ?hqu04 ?hyu04 hHeld ?restu04
              case hiu04 => exact rfl
              case hqu04 => exact fun _ _ _ h => h
              case hyu04 =>
                refine Or.inl ⟨by rfl, ?_⟩
                intro w hSw
                (try dsimp only at hSw)
                go_simp
                (try with_reducible rfl)
              try simp only [Act.put, List.getElem_toArray, List.getElem_cons_succ, List.getElem_cons_zero, List.setIfInBounds_toArray, List.set_cons_zero, List.set_cons_succ]
              refine wpAnyH_take (i := 5) (oi := ?oiu05) (v := undef) ?hiu05 (by kernel_rfl) (by kernel_rfl) (by kernel_rfl) ?hqu05 ?hyu05 hHeld ?restu05
              case hiu05 => exact rfl
              case hqu05 => exact fun _ _ _ h => h
              case hyu05 => exact Or.inr ⟨by kernel_rfl, rfl⟩
              try simp only [Act.put, List.getElem_toArray, List.getElem_cons_succ, List.getElem_cons_zero, List.setIfInBounds_toArray, List.set_cons_zero, List.set_cons_succ]
              refine wpAnyH_take (i := 6) (oi := ?oiu06) (v := undef) ?hiu06 (by kernel_rfl) (by kernel_rfl) (by kernel_rfl) ?hqu06 ?hyu06 hHeld ?restu06
              case hiu06 => exact rfl
              case hqu06 => exact fun _ _ _ h => h
              case hyu06 => exact Or.inr ⟨by kernel_rfl, rfl⟩
              try simp only [Act.put, List.getElem_toArray, List.getElem_cons_succ, List.getElem_cons_zero, List.setIfInBounds_toArray, List.set_cons_zero, List.set_cons_succ]
              refine wpAnyH_take (i := 7) (oi := ?oiu07) (v := undef) ?hiu07 (by kernel_rfl) (by kernel_rfl) (by kernel_rfl) ?hqu07 ?hyu07 hHeld ?restu07
              case hiu07 => exact rfl
              case hqu07 => exact fun _ _ _ h => h
              case hyu07 => exact Or.inr ⟨by kernel_rfl, rfl⟩
              try simp only [Act.put, List.getElem_toArray, List.getElem_cons_succ, List.getElem_cons_zero, List.setIfInBounds_toArray, List.set_cons_zero, List.set_cons_succ]
              refine wpAnyH_take (i := 8) (oi := ?oiu08) (v := undef) ?hiu08 (by kernel_rfl) (by kernel_rfl) (by kernel_rfl) ?hqu08 ?hyu08 hHeld ?restu08
              case hiu08 => exact rfl
              case hqu08 => exact fun _ _ _ h => h
              case hyu08 => exact Or.inr ⟨by kernel_rfl, rfl⟩
              try simp only [Act.put, List.getElem_toArray, List.getElem_cons_succ, List.getElem_cons_zero, List.setIfInBounds_toArray, List.set_cons_zero, List.set_cons_succ]
              refine wpAnyH_take (i := 9) (oi := ?oiu09) (v := undef) ?hiu09 (by kernel_rfl) (by kernel_rfl) (by kernel_rfl) ?hqu09 ?hyu09 hHeld ?restu09
              case hiu09 => exact rfl
              case hqu09 => exact fun _ _ _ h => h
              case hyu09 => exact Or.inr ⟨by kernel_rfl, rfl⟩
              try simp only [Act.put, List.getElem_toArray, List.getElem_cons_succ, List.getElem_cons_zero, List.setIfInBounds_toArray, List.set_cons_zero, List.set_cons_succ]
              refine wpAnyH_take (i := 10) (oi := ?oiu10) (v := undef) ?hiu10 (by kernel_rfl) (by kernel_rfl) (by kernel_rfl) ?hqu10 ?hyu10 hHeld ?restu10
              case hiu10 => exact rfl
              case hqu10 => exact fun _ _ _ h => h
              case hyu10 => exact Or.inr ⟨by kernel_rfl, rfl⟩
              try simp only [Act.put, List.getElem_toArray, List.getElem_cons_succ, List.getElem_cons_zero, List.setIfInBounds_toArray, List.set_cons_zero, List.set_cons_succ]
              refine wpAnyH_take (i := 11) (oi := ?oiu11) (v := undef) ?hiu11 (by kernel_rfl) (by kernel_rfl) (by kernel_rfl) ?hqu11 ?hyu11 hHeld ?restu11
              case hiu11 => exact rfl
              case hqu11 => exact fun _ _ _ h => h
              case hyu11 => exact Or.inr ⟨by kernel_rfl, rfl⟩
              try simp only [Act.put, List.getElem_toArray, List.getElem_cons_succ, List.getElem_cons_zero, List.setIfInBounds_toArray, List.set_cons_zero, List.set_cons_succ]
              refine wpAnyH_take (i := 12) (oi := ?oiu12) (v := undef) ?hiu12 (by kernel_rfl) (by kernel_rfl) (by kernel_rfl) ?hqu12 ?hyu12 hHeld ?restu12
              case hiu12 => exact rfl
              case hqu12 => exact fun _ _ _ h => h
              case hyu12 => exact Or.inr ⟨by kernel_rfl, rfl⟩
              try simp only [Act.put, List.getElem_toArray, List.getElem_cons_succ, List.getElem_cons_zero, List.setIfInBounds_toArray, List.set_cons_zero, List.set_cons_succ]
              refine wpAnyH_take (i := 13) (oi := ?oiu13) (v := undef) ?hiu13 (by kernel_rfl) (by kernel_rfl) (by kernel_rfl) ?hqu13 ?hyu13 hHeld ?restu13
              case hiu13 => exact rfl
              case hqu13 => exact fun _ _ _ h => h
              case hyu13 => exact Or.inr ⟨by kernel_rfl, rfl⟩
              try simp only [Act.put, List.getElem_toArray, List.getElem_cons_succ, List.getElem_cons_zero, List.setIfInBounds_toArray, List.set_cons_zero, List.set_cons_succ]
              refine wpAnyH_take (i := 14) (oi := ?oiu14) (v := undef) ?hiu14 (by kernel_rfl) (by kernel_rfl) (by kernel_rfl) ?hqu14 ?hyu14 hHeld ?restu14
              case hiu14 => exact rfl
              case hqu14 => exact fun _ _ _ h => h
              case hyu14 => exact Or.inr ⟨by kernel_rfl, rfl⟩
              try simp only [Act.put, List.getElem_toArray, List.getElem_cons_succ, List.getElem_cons_zero, List.setIfInBounds_toArray, List.set_cons_zero, List.set_cons_succ]
              refine wpAnyH_take (i := 15) (oi := ?oiu15) (v := undef) ?hiu15 (by kernel_rfl) (by kernel_rfl) (by kernel_rfl) ?hqu15 ?hyu15 hHeld ?restu15
              case hiu15 => exact rfl
              case hqu15 => exact fun _ _ _ h => h
              case hyu15 => exact Or.inr ⟨by kernel_rfl, rfl⟩
              try simp only [Act.put, List.getElem_toArray, List.getElem_cons_succ, List.getElem_cons_zero, List.setIfInBounds_toArray, List.set_cons_zero, List.set_cons_succ]
              refine wpAnyH_take (i := 16) (oi := ?oiu16) (v := undef) ?hiu16 (by kernel_rfl) (by kernel_rfl) (by kernel_rfl) ?hqu16 ?hyu16 hHeld ?restu16
              case hiu16 => exact rfl
              case hqu16 => exact fun _ _ _ h => h
              case hyu16 => exact Or.inr ⟨by kernel_rfl, rfl⟩
              try simp only [Act.put, List.getElem_toArray, List.getElem_cons_succ, List.getElem_cons_zero, List.setIfInBounds_toArray, List.set_cons_zero, List.set_cons_succ]
              refine wpAnyH_take (i := 17) (oi := ?oiu17) (v := undef) ?hiu17 (by kernel_rfl) (by kernel_rfl) (by kernel_rfl) ?hqu17 ?hyu17 hHeld ?restu17
              case hiu17 => exact rfl
              case hqu17 => exact fun _ _ _ h => h
              case hyu17 => exact Or.inr ⟨by kernel_rfl, rfl⟩
              try simp only [Act.put, List.getElem_toArray, List.getElem_cons_succ, List.getElem_cons_zero, List.setIfInBounds_toArray, List.set_cons_zero, List.set_cons_succ]
              refine wpAnyH_take (i := 18) (oi := ?oiu18) (v := ?vu18) ?hiu18 (by kernel_rfl) (by kernel_rfl) (by kernel_rfl) ?hqu18 ?hyu18 hHeld ?restu18
              case hiu18 => exact rfl
              case hqu18 => exact fun _ _ _ h => h
              case hyu18 =>
                refine Or.inl ⟨by rfl, ?_⟩
                intro w hSw
                (try dsimp only at hSw)
                go_simp
                (try with_reducible rfl)
              try simp only [Act.put, List.getElem_toArray, List.getElem_cons_succ, List.getElem_cons_zero, List.setIfInBounds_toArray, List.set_cons_zero, List.set_cons_succ]
              refine wpAnyH_done (by kernel_rfl) ?_ _
              go_wp2_with fail
              go_roundw
              case rel => exact ⟨i + 1, bo, by omega, by go_num, rfl, HY.out, HJ.out.drew⟩
              case measure => first | (simp [intOf]; done) | (simp [intOf]; omega)
            · rw [decide_eq_false hin] at hH
              have HH := Lib.hid hH
              cases bo with
              | none =>
                have HY := Lib.hid (bst_first HBS.out hin)
                clear hH hJ hin
                simp only [bI]
                go_wp2_with fail
                refine wp_region_held_drew (S := (fun _ => True)) (by kernel_rfl) ?_ (fun hHeld => ?_)
                · exact trivial
                refine wpAnyH_take (i := 0) (oi := ?oiv00) (v := ?vv00) ?hiv00 (by kernel_rfl) (by kernel_rfl) (by kernel_rfl) ?hqv00 ?hyv00 hHeld ?restv00
                case hiv00 => exact rfl
                case hqv00 => exact fun _ _ _ h => h
                case hyv00 =>
                  refine Or.inl ⟨by rfl, ?_⟩
                  intro w hSw
                  (try dsimp only at hSw)
                  go_simp
                  (try with_reducible rfl)
                try simp only [Act.put, List.getElem_toArray, List.getElem_cons_succ, List.getElem_cons_zero, List.setIfInBounds_toArray, List.set_cons_zero, List.set_cons_succ]
                refine wpAnyH_take (i := 1) (oi := ?oiv01) (v := ?vv01) ?hiv01 (by kernel_rfl) (by kernel_rfl) (by kernel_rfl) ?hqv01 ?hyv01 hHeld ?restv01
                case hiv01 => exact rfl
                case hqv01 => exact fun _ _ _ h => h
                case hyv01 =>
                  refine Or.inl ⟨by rfl, ?_⟩
                  intro w hSw
                  (try dsimp only at hSw)
                  go_simp
                  (try with_reducible rfl)
                try simp only [Act.put, List.getElem_toArray, List.getElem_cons_succ, List.getElem_cons_zero, List.setIfInBounds_toArray, List.set_cons_zero, List.set_cons_succ]
                refine wpAnyH_ready (rs := [2]) (by kernel_rfl) (by simp) ?_
                refine AllReadyH.cons (o := ?oov02) ?hov02 ?hkv02 AllReadyH.nil
                case hov02 => exact rfl
                intro K hK
                go_simp
                refine (HH.out _ (HZ.out.below (Below.refl _ _).drew (Nat.le_refl _))).mono ?_; rintro e wa ⟨rfl, rfl⟩
                refine hK.out _ _ ?_ (fun hHeld => ?_)
                · exact trivial
                clear hK K
                try simp only [Act.put, List.getElem_toArray, List.getElem_cons_succ, List.getElem_cons_zero, List.setIfInBounds_toArray, List.set_cons_zero, List.set_cons_succ]
                refine wpAnyH_take (i := 3) (oi := ?oiv03) (v := ?vv03) ?hiv03 (by kernel_rfl) (by kernel_rfl) (by kernel_rfl) ?hqv03 ?hyv03 hHeld ?restv03
                case hiv03 => exact rfl
                case hqv03 => exact fun _ _ _ h => h
                case hyv03 =>
                  refine Or.inl ⟨by rfl, ?_⟩
                  intro w hSw
                  (try dsimp only at hSw)
                  go_simp
                  (try with_reducible rfl)
                try simp only [Act.put, List.getElem_toArray, List.getElem_cons_succ, List.getElem_cons_zero, List.setIfInBounds_toArray, List.set_cons_zero, List.set_cons_succ]
                refine wpAnyH_take (i := 4) (oi := ?oiv04) (v := ?vv04) ?hiv04 (by kernel_rfl) (by kernel_rfl) (by kernel_rfl) ?hqv04 ?hyv04 hHeld ?restv04
                case hiv04 => exact rfl
                case hqv04 => exact fun _ _ _ h => h
                case hyv04 =>
                  refine Or.inl ⟨by rfl, ?_⟩
                  intro w hSw
                  (try dsimp only at hSw)
                  go_simp
                  (try with_reducible rfl)
                try simp only [Act.put, List.getElem_toArray, List.getElem_cons_succ, List.getElem_cons_zero, List.setIfInBounds_toArray, List.set_cons_zero, List.set_cons_succ]
                refine wpAnyH_take (i := 5) (oi := ?oiv05) (v := ?vv05) ?hiv05 (by kernel_rfl) (by kernel_rfl) (by kernel_rfl) ?hqv05 ?hyv05 hHeld ?restv05
                case hiv05 => exact rfl
                case hqv05 => exact fun _ _ _ h => h
                case hyv05 =>
                  refine Or.inl ⟨by rfl, ?_⟩
                  intro w hSw
                  (try dsimp only at hSw)
                  go_simp
                  (try with_reducible rfl)
                try simp only [Act.put, List.getElem_toArray, List.getElem_cons_succ, List.getElem_cons_zero, List.setIfInBounds_toArray, List.set_cons_zero, List.set_cons_succ]
                refine wpAnyH_take (i := 6) (oi := ?oiv06) (v := ?vv06) ?hiv06 (by kernel_rfl) (by kernel_rfl) (by kernel_rfl) ?hqv06 ?hyv06 hHeld ?restv06
                case hiv06 => exact rfl
                case hqv06 => exact fun _ _ _ h => h
                case hyv06 =>
                  refine Or.inl ⟨by rfl, ?_⟩
                  intro w hSw
                  (try dsimp only at hSw)
                  go_simp
                  (try with_reducible rfl)
                try simp only [Act.put, List.getElem_toArray, List.getElem_cons_succ, List.getElem_cons_zero, List.setIfInBounds_toArray, List.set_cons_zero, List.set_cons_succ]
                refine wpAnyH_take (i := 7) (oi := ?oiv07) (v := ?vv07) ?hiv07 (by kernel_rfl) (by kernel_rfl) (by kernel_rfl) ?hqv07 ?hyv07 hHeld ?restv07
                case hiv07 => exact rfl
                case hqv07 => exact fun _ _ _ h => h
                case hyv07 =>
                  refine Or.inl ⟨by rfl, ?_⟩
                  intro w hSw
                  (try dsimp only at hSw)
                  go_simp
                  (try with_reducible rfl)
                try simp only [Act.put, List.getElem_toArray, List.getElem_cons_succ, List.getElem_cons_zero, List.setIfInBounds_toArray, List.set_cons_zero, List.set_cons_succ]
                refine wpAnyH_take (i := 8) (oi := ?oiv08) (v := undef) ?hiv08 (by kernel_rfl) (by kernel_rfl) (by kernel_rfl) ?hqv08 ?hyv08 hHeld ?restv08
                case hiv08 => exact rfl
                case hqv08 => exact fun _ _ _ h => h
                case hyv08 => exact Or.inr ⟨by kernel_rfl, rfl⟩
                try simp only [Act.put, List.getElem_toArray, List.getElem_cons_succ, List.getElem_cons_zero, List.setIfInBounds_toArray, List.set_cons_zero, List.set_cons_succ]
                refine wpAnyH_take (i := 9) (oi := ?oiv09) (v := undef) ?hiv09 (by kernel_rfl) (by kernel_rfl) (by kernel_rfl) ?hqv09 ?hyv09 hHeld ?restv09
                case hiv09 => exact rfl
                case hqv09 => exact fun _ _ _ h => h
                case hyv09 => exact Or.inr ⟨by kernel_rfl, rfl⟩
                try simp only [Act.put, List.getElem_toArray, List.getElem_cons_succ, List.getElem_cons_zero, List.setIfInBounds_toArray, List.set_cons_zero, List.set_cons_succ]
                refine wpAnyH_take (i := 10) (oi := ?oiv10) (v := undef) ?hiv10 (by kernel_rfl) (by kernel_rfl) (by kernel_rfl) ?hqv10 ?hyv10 hHeld ?restv10
                case hiv10 => exact rfl
                case hqv10 => exact fun _ _ _ h => h
                case hyv10 => exact Or.inr ⟨by kernel_rfl, rfl⟩
                try simp only [Act.put, List.getElem_toArray, List.getElem_cons_succ, List.getElem_cons_zero, List.setIfInBounds_toArray, List.set_cons_zero, List.set_cons_succ]
                refine wpAnyH_take (i := 11) (oi := ?oiv11) (v := undef) ?hiv11 (by kernel_rfl) (by kernel_rfl) (by kernel_rfl) ?hqv11 ?hyv11 hHeld ?restv11
                case hiv11 => exact rfl
                case hqv11 => exact fun _ _ _ h => h
                case hyv11 => exact Or.inr ⟨by kernel_rfl, rfl⟩
                try simp only [Act.put, List.getElem_toArray, List.getElem_cons_succ, List.getElem_cons_zero, List.setIfInBounds_toArray, List.set_cons_zero, List.set_cons_succ]
                refine wpAnyH_take (i := 12) (oi := ?oiv12) (v := undef) ?hiv12 (by kernel_rfl) (by kernel_rfl) (by kernel_rfl) ?hqv12 ?hyv12 hHeld ?restv12
                case hiv12 => exact rfl
                case hqv12 => exact fun _ _ _ h => h
                case hyv12 => exact Or.inr ⟨by kernel_rfl, rfl⟩
                try simp only [Act.put, List.getElem_toArray, List.getElem_cons_succ, List.getElem_cons_zero, List.setIfInBounds_toArray, List.set_cons_zero, List.set_cons_succ]
                refine wpAnyH_take (i := 13) (oi := ?oiv13) (v := undef) ?hiv13 (by kernel_rfl) (by kernel_rfl) (by kernel_rfl) ?hqv13 ?hyv13 hHeld ?restv13
                case hiv13 => exact rfl
                case hqv13 => exact fun _ _ _ h => h
                case hyv13 => exact Or.inr ⟨by kernel_rfl, rfl⟩
                try simp only [Act.put, List.getElem_toArray, List.getElem_cons_succ, List.getElem_cons_zero, List.setIfInBounds_toArray, List.set_cons_zero, List.set_cons_succ]
                refine wpAnyH_take (i := 14) (oi := ?oiv14) (v := undef) ?hiv14 (by kernel_rfl) (by kernel_rfl) (by kernel_rfl) ?hqv14 ?hyv14 hHeld ?restv14
                case hiv14 => exact rfl
                case hqv14 => exact fun _ _ _ h => h
                case hyv14 => exact Or.inr ⟨by kernel_rfl, rfl⟩
                try simp only [Act.put, List.getElem_toArray, List.getElem_cons_succ, List.getElem_cons_zero, List.setIfInBounds_toArray, List.set_cons_zero, List.set_cons_succ]
                refine wpAnyH_take (i := 15) (oi := ?oiv15) (v := undef) ?hiv15 (by kernel_rfl) (by kernel_rfl) (by kernel_rfl) ?hqv15 ?hyv15 hHeld ?restv15
                case hiv15 => exact rfl
                case hqv15 => exact fun _ _ _ h => h
                case hyv15 => exact Or.inr ⟨by kernel_rfl, rfl⟩
                try simp only [Act.put, List.getElem_toArray, List.getElem_cons_succ, List.getElem_cons_zero, List.setIfInBounds_toArray, List.set_cons_zero, List.set_cons_succ]
                refine wpAnyH_take (i := 16) (oi := ?oiv16) (v := undef) ?hiv16 (by kernel_rfl) (by kernel_rfl) (by kernel_rfl) ?hqv16 ?hyv16 hHeld ?restv16
                case hiv16 => exact rfl
                case hqv16 => exact fun _ _ _ h => h
                case hyv16 => exact Or.inr ⟨by kernel_rfl, rfl⟩
                try simp only [Act.put, List.getElem_toArray, List.getElem_cons_succ, List.getElem_cons_zero, List.setIfInBounds_toArray, List.set_cons_zero, List.set_cons_succ]
                refine wpAnyH_take (i := 17) (oi := ?oiv17) (v := ?vv17) ?hiv17 (by kernel_rfl) (by kernel_rfl) (by kernel_rfl) ?hqv17 ?hyv17 hHeld ?restv17
                case hiv17 => exact rfl
                case hqv17 => exact fun _ _ _ h => h
                case hyv17 =>
                  refine Or.inl ⟨by rfl, ?_⟩
                  intro w hSw
                  (try dsimp only at hSw)
                  go_simp
                  (try with_reducible rfl)
                try simp only [Act.put, List.getElem_toArray, List.getElem_cons_succ, List.getElem_cons_zero, List.setIfInBounds_toArray, List.set_cons_zero, List.set_cons_succ]
                refine wpAnyH_take (i := 18) (oi := ?oiv18) (v := ?vv18) ?hiv18 (by kernel_rfl) (by kernel_rfl) (by kernel_rfl) ?hqv18 ?hyv18 hHeld ?restv18
                case hiv18 => exact rfl
                case hqv18 => exact fun _ _ _ h => h
                case hyv18 =>
                  refine Or.inl ⟨by rfl, ?_⟩
                  intro w hSw
                  (try dsimp only at hSw)
                  go_simp
                  (try with_reducible rfl)
                try simp only [Act.put, List.getElem_toArray, List.getElem_cons_succ, List.getElem_cons_zero, List.setIfInBounds_toArray, List.set_cons_zero, List.set_cons_succ]
                refine wpAnyH_done (by kernel_rfl) ?_ _
                go_wp2_with fail
                go_roundw
                case rel => exact ⟨i + 1, some i, by omega, by go_num, rfl, HY.out, HJ.out.drew⟩
                case measure => first | (simp [intOf]; done) | (simp [intOf]; omega)
              | some b =>
                have hbi : b < i := HBS.out.1
                have hbn : b < ps.length := by omega
                have hneg : decide ((b : Int) < 0) = false := by simp
                obtain ⟨gb, off, q, rfl, hgb, hq1, c0, c1⟩ := (HQ.out.below (HB2.out.trans (hJ.mono HB2.out.size)) (Nat.le_refl _)).at_ (k := b) (by rw [HSL.out]; exact hbn)
                obtain ⟨gb', off', r, e, hgb', hr1, d0, d1⟩ := (HQ.out.below (HB2.out.trans (hJ.mono HB2.out.size)) (Nat.le_refl _)).at_ (k := i) (by rw [HSL.out]; exact hlt2)
                obtain ⟨rfl, rfl⟩ : gb = gb' ∧ off = off' := by simpa using e
                have eq1 : scQ ps ts b = q := by have := hq1.symm.trans (HSG.out b hbn); injection this with this; exact this.symm
                have er1 : scQ ps ts i = r := by have := hr1.symm.trans (HSG.out i hlt2); injection this with this; exact this.symm
                have hokq := HOK.out b hbn
                have hokr := HOK.out i hlt2
                rw [eq1] at hokq
                rw [er1] at hokr
                have HC := Lib.hid (fun w => less_any q r hokq hokr w)
                have HM := Lib.hid (fun h => bst_more HPOS.out HBS.out hin h)
                have HL := Lib.hid (fun h => bst_less HBS.out h)
                rw [HGD.out b hbn, HGD.out i hlt2, eq1, er1] at HM HL
                generalize ltQ q r = bb at HC HM HL
                obtain ⟨q1, q2⟩ := q
                obtain ⟨r1, r2⟩ := r
                simp only at c0 c1 d0 d1 HC
                have hlg : gb < wr.heap.size := hgb
                clear hokq hokr hq1 hr1 eq1 er1 e hJ hH hin
                simp only [bI]
                cases bb
                · have HY := Lib.hid (HL.out rfl)
                  go_wp2_with fail
                  refine wp_region_held_drew (S := (fun w' => w'.cell? ⟨gb, off + b * 2, none⟩ = some (.int .i64 q1) ∧ w'.cell? ⟨gb, off + b * 2 + 1, none⟩ = some (.int .i64 q2) ∧ w'.cell? ⟨gb, off + i * 2, none⟩ = some (.int .i64 r1) ∧ w'.cell? ⟨gb, off + i * 2 + 1, none⟩ = some (.int .i64 r2))) (by kernel_rfl) ?_ (fun hHeld => ?_)
                  · exact ⟨c0, c1, d0, d1⟩
                  refine wpAnyH_take (i := 0) (oi := ?oix00) (v := ?vx00) ?hix00 (by kernel_rfl) (by kernel_rfl) (by kernel_rfl) ?hqx00 ?hyx00 hHeld ?restx00
                  case hix00 => exact rfl
                  case hqx00 => exact fun _ _ _ h => h
                  case hyx00 =>
                    refine Or.inl ⟨by rfl, ?_⟩
                    intro w hSw
                    (try dsimp only at hSw)
                    go_simp
                    (try with_reducible rfl)
                  try simp only [Act.put, List.getElem_toArray, List.getElem_cons_succ, List.getElem_cons_zero, List.setIfInBounds_toArray, List.set_cons_zero, List.set_cons_succ]
                  refine wpAnyH_take (i := 1) (oi := ?oix01) (v := ?vx01) ?hix01 (by kernel_rfl) (by kernel_rfl) (by kernel_rfl) ?hqx01 ?hyx01 hHeld ?restx01
                  case hix01 => exact rfl
                  case hqx01 => exact fun _ _ _ h => h
                  case hyx01 =>
                    refine Or.inl ⟨by rfl, ?_⟩
                    intro w hSw
                    (try dsimp only at hSw)
                    go_simp
                    (try with_reducible rfl)
                  try simp only [Act.put, List.getElem_toArray, List.getElem_cons_succ, List.getElem_cons_zero, List.setIfInBounds_toArray, List.set_cons_zero, List.set_cons_succ]
                  refine wpAnyH_ready (rs := [2]) (by kernel_rfl) (by simp) ?_
                  refine AllReadyH.cons (o := ?oox02) ?hox02 ?hkx02 AllReadyH.nil
                  case hox02 => exact rfl
                  intro K hK
                  go_simp
                  refine (HH.out _ (HZ.out.below (Below.refl _ _).drew (Nat.le_refl _))).mono ?_; rintro e wa ⟨rfl, rfl⟩
                  refine hK.out _ _ ?_ (fun hHeld => ?_)
                  · exact ⟨c0, c1, d0, d1⟩
                  clear hK K
                  try simp only [Act.put, List.getElem_toArray, List.getElem_cons_succ, List.getElem_cons_zero, List.setIfInBounds_toArray, List.set_cons_zero, List.set_cons_succ]
                  refine wpAnyH_take (i := 3) (oi := ?oix03) (v := ?vx03) ?hix03 (by kernel_rfl) (by kernel_rfl) (by kernel_rfl) ?hqx03 ?hyx03 hHeld ?restx03
                  case hix03 => exact rfl
                  case hqx03 => exact fun _ _ _ h => h
                  case hyx03 =>
                    refine Or.inl ⟨by rfl, ?_⟩
                    intro w hSw
                    (try dsimp only at hSw)
                    go_simp
                    (try with_reducible rfl)
                  try simp only [Act.put, List.getElem_toArray, List.getElem_cons_succ, List.getElem_cons_zero, List.setIfInBounds_toArray, List.set_cons_zero, List.set_cons_succ]
                  refine wpAnyH_take (i := 4) (oi := ?oix04) (v := ?vx04) ?hix04 (by kernel_rfl) (by kernel_rfl) (by kernel_rfl) ?hqx04 ?hyx04 hHeld ?restx04
                  case hix04 => exact rfl
                  case hqx04 => exact fun _ _ _ h => h
                  case hyx04 =>
                    refine Or.inl ⟨by rfl, ?_⟩
                    intro w hSw
                    (try dsimp only at hSw)
                    go_simp
                    (try with_reducible rfl)
                  try simp only [Act.put, List.getElem_toArray, List.getElem_cons_succ, List.getElem_cons_zero, List.setIfInBounds_toArray, List.set_cons_zero, List.set_cons_succ]
                  refine wpAnyH_take (i := 5) (oi := ?oix05) (v := ?vx05) ?hix05 (by kernel_rfl) (by kernel_rfl) (by kernel_rfl) ?hqx05 ?hyx05 hHeld ?restx05
                  case hix05 => exact rfl
                  case hqx05 => exact fun _ _ _ h => h
                  case hyx05 =>
                    refine Or.inl ⟨by rfl, ?_⟩
                    intro w hSw
                    (try dsimp only at hSw)
                    go_simp
                    (try with_reducible rfl)
                  try simp only [Act.put, List.getElem_toArray, List.getElem_cons_succ, List.getElem_cons_zero, List.setIfInBounds_toArray, List.set_cons_zero, List.set_cons_succ]
                  refine wpAnyH_take (i := 6) (oi := ?oix06) (v := ?vx06) ?hix06 (by kernel_rfl) (by kernel_rfl) (by kernel_rfl) ?hqx06 ?hyx06 hHeld ?restx06
                  case hix06 => exact rfl
                  case hqx06 => exact fun _ _ _ h => h
                  case hyx06 =>
                    refine Or.inl ⟨by rfl, ?_⟩
                    intro w hSw
                    (try dsimp only at hSw)
                    go_simp
                    (try with_reducible rfl)
                  try simp only [Act.put, List.getElem_toArray, List.getElem_cons_succ, List.getElem_cons_zero, List.setIfInBounds_toArray, List.set_cons_zero, List.set_cons_succ]
                  refine wpAnyH_take (i := 7) (oi := ?oix07) (v := ?vx07) ?hix07 (by kernel_rfl) (by kernel_rfl) (by kernel_rfl) ?hqx07 ?hyx07 hHeld ?restx07
                  case hix07 => exact rfl
                  case hqx07 => exact fun _ _ _ h => h
                  case hyx07 =>
                    refine Or.inl ⟨by rfl, ?_⟩
                    intro w hSw
                    (try dsimp only at hSw)
                    go_simp
                    (try with_reducible rfl)
                  try simp only [Act.put, List.getElem_toArray, List.getElem_cons_succ, List.getElem_cons_zero, List.setIfInBounds_toArray, List.set_cons_zero, List.set_cons_succ]
                  refine wpAnyH_take (i := 8) (oi := ?oix08) (v := ?vx08) ?hix08 (by kernel_rfl) (by kernel_rfl) (by kernel_rfl) ?hqx08 ?hyx08 hHeld ?restx08
                  case hix08 => exact rfl
                  case hqx08 => exact fun _ _ _ h => h
                  case hyx08 =>
                    refine Or.inl ⟨by rfl, ?_⟩
                    intro w hSw
                    (try dsimp only at hSw)
                    go_simp
                    (try with_reducible rfl)
                  try simp only [Act.put, List.getElem_toArray, List.getElem_cons_succ, List.getElem_cons_zero, List.setIfInBounds_toArray, List.set_cons_zero, List.set_cons_succ]
                  refine wpAnyH_take (i := 9) (oi := ?oix09) (v := ?vx09) ?hix09 (by kernel_rfl) (by kernel_rfl) (by kernel_rfl) ?hqx09 ?hyx09 hHeld ?restx09
                  case hix09 => exact rfl
                  case hqx09 => exact fun _ _ _ h => h
                  case hyx09 =>
                    refine Or.inl ⟨by rfl, ?_⟩
                    intro w hSw
                    (try dsimp only at hSw)
                    go_simp
                    (try with_reducible rfl)
                  try simp only [Act.put, List.getElem_toArray, List.getElem_cons_succ, List.getElem_cons_zero, List.setIfInBounds_toArray, List.set_cons_zero, List.set_cons_succ]
                  refine wpAnyH_take (i := 10) (oi := ?oix10) (v := ?vx10) ?hix10 (by kernel_rfl) (by kernel_rfl) (by kernel_rfl) ?hqx10 ?hyx10 hHeld ?restx10
                  case hix10 => exact rfl
                  case hqx10 => exact fun _ _ _ h => h
                  case hyx10 =>
                    refine Or.inl ⟨by rfl, ?_⟩
                    intro w hSw
                    (try dsimp only at hSw)
                    go_simp
                    (try with_reducible rfl)
                  try simp only [Act.put, List.getElem_toArray, List.getElem_cons_succ, List.getElem_cons_zero, List.setIfInBounds_toArray, List.set_cons_zero, List.set_cons_succ]
                  refine wpAnyH_take (i := 11) (oi := ?oix11) (v := ?vx11) ?hix11 (by kernel_rfl) (by kernel_rfl) (by kernel_rfl) ?hqx11 ?hyx11 hHeld ?restx11
                  case hix11 => exact rfl
                  case hqx11 => exact fun _ _ _ h => h
                  case hyx11 =>
                    refine Or.inl ⟨by rfl, ?_⟩
                    intro w hSw
                    (try dsimp only at hSw)
                    go_simp
                    (try with_reducible rfl)
                  try simp only [Act.put, List.getElem_toArray, List.getElem_cons_succ, List.getElem_cons_zero, List.setIfInBounds_toArray, List.set_cons_zero, List.set_cons_succ]
                  refine wpAnyH_take (i := 12) (oi := ?oix12) (v := ?vx12) ?hix12 (by kernel_rfl) (by kernel_rfl) (by kernel_rfl) ?hqx12 ?hyx12 hHeld ?restx12
                  case hix12 => exact rfl
                  case hqx12 => exact fun _ _ _ h => h
                  case hyx12 =>
                    refine Or.inl ⟨by rfl, ?_⟩
                    intro w hSw
                    (try dsimp only at hSw)
                    go_simp
                    (try with_reducible rfl)
                  try simp only [Act.put, List.getElem_toArray, List.getElem_cons_succ, List.getElem_cons_zero, List.setIfInBounds_toArray, List.set_cons_zero, List.set_cons_succ]
                  refine wpAnyH_take (i := 13) (oi := ?oix13) (v := ?vx13) ?hix13 (by kernel_rfl) (by kernel_rfl) (by kernel_rfl) ?hqx13 ?hyx13 hHeld ?restx13
                  case hix13 => exact rfl
                  case hqx13 => exact fun _ _ _ h => h
                  case hyx13 =>
                    refine Or.inl ⟨by rfl, ?_⟩
                    intro w hSw
                    (try dsimp only at hSw)
                    go_simp
                    (try with_reducible rfl)
                  try simp only [Act.put, List.getElem_toArray, List.getElem_cons_succ, List.getElem_cons_zero, List.setIfInBounds_toArray, List.set_cons_zero, List.set_cons_succ]
                  refine wpAnyH_take (i := 14) (oi := ?oix14) (v := ?vx14) ?hix14 (by kernel_rfl) (by kernel_rfl) (by kernel_rfl) ?hqx14 ?hyx14 hHeld ?restx14
                  case hix14 => exact rfl
                  case hqx14 => exact fun _ _ _ h => h
                  case hyx14 =>
                    refine Or.inl ⟨by rfl, ?_⟩
                    intro w hSw
                    (try dsimp only at hSw)
                    go_simp
                    (try with_reducible rfl)
                  try simp only [Act.put, List.getElem_toArray, List.getElem_cons_succ, List.getElem_cons_zero, List.setIfInBounds_toArray, List.set_cons_zero, List.set_cons_succ]
                  refine wpAnyH_take (i := 15) (oi := ?oix15) (v := ?vx15) ?hix15 (by kernel_rfl) (by kernel_rfl) (by kernel_rfl) ?hqx15 ?hyx15 hHeld ?restx15
                  case hix15 => exact rfl
                  case hqx15 => exact fun _ _ _ h => h
                  case hyx15 =>
                    refine Or.inl ⟨by rfl, ?_⟩
                    intro w hSw
                    (try dsimp only at hSw)
                    go_simp
                    (try with_reducible rfl)
                  try simp only [Act.put, List.getElem_toArray, List.getElem_cons_succ, List.getElem_cons_zero, List.setIfInBounds_toArray, List.set_cons_zero, List.set_cons_succ]
                  refine wpAnyH_ready (rs := [16]) (by kernel_rfl) (by simp) ?_
                  refine AllReadyH.cons (o := ?oox16) ?hox16 ?hkx16 AllReadyH.nil
                  case hox16 => exact rfl
                  intro K hK
                  go_simp
                  refine (HC.out _).mono ?_; rintro e wa ⟨rfl, hBa⟩; have hBB := (Below.refl _ _).drew.trans hBa
                  refine hK.out _ _ ?_ (fun hHeld => ?_)
                  · exact ⟨(hBB.cell (p := ⟨gb, _, none⟩) hlg).trans c0, (hBB.cell (p := ⟨gb, _, none⟩) hlg).trans c1, (hBB.cell (p := ⟨gb, _, none⟩) hlg).trans d0, (hBB.cell (p := ⟨gb, _, none⟩) hlg).trans d1⟩
                  clear hK K
                  try simp only [Act.put, List.getElem_toArray, List.getElem_cons_succ, List.getElem_cons_zero, List.setIfInBounds_toArray, List.set_cons_zero, List.set_cons_succ]
                  refine wpAnyH_take (i := 17) (oi := ?oix17) (v := ?vx17) ?hix17 (by kernel_rfl) (by kernel_rfl) (by kernel_rfl) ?hqx17 ?hyx17 hHeld ?restx17
                  case hix17 => exact rfl
                  case hqx17 => exact fun _ _ _ h => h
                  case hyx17 =>
                    refine Or.inl ⟨by rfl, ?_⟩
                    intro w hSw
                    (try dsimp only at hSw)
                    go_simp
                    (try with_reducible rfl)
                  try simp only [Act.put, List.getElem_toArray, List.getElem_cons_succ, List.getElem_cons_zero, List.setIfInBounds_toArray, List.set_cons_zero, List.set_cons_succ]
                  refine wpAnyH_take (i := 18) (oi := ?oix18) (v := ?vx18) ?hix18 (by kernel_rfl) (by kernel_rfl) (by kernel_rfl) ?hqx18 ?hyx18 hHeld ?restx18
                  case hix18 => exact rfl
                  case hqx18 => exact fun _ _ _ h => h
                  case hyx18 =>
                    refine Or.inl ⟨by rfl, ?_⟩
                    intro w hSw
                    (try dsimp only at hSw)
                    go_simp
                    (try with_reducible rfl)
                  try simp only [Act.put, List.getElem_toArray, List.getElem_cons_succ, List.getElem_cons_zero, List.setIfInBounds_toArray, List.set_cons_zero, List.set_cons_succ]
                  refine wpAnyH_done (by kernel_rfl) ?_ _
                  go_wp2_with fail
                  go_roundw
                  case rel => exact ⟨i + 1, some b, by omega, by go_num, rfl, HY.out, HJ.out.trans (hBB.mono HJ.out.size)⟩
                  case measure => first | (simp [intOf]; done) | (simp [intOf]; omega)
                · have HY := Lib.hid (HM.out rfl)
                  go_wp2_with fail
                  refine wp_region_held_drew (S := (fun w' => w'.cell? ⟨gb, off + b * 2, none⟩ = some (.int .i64 q1) ∧ w'.cell? ⟨gb, off + b * 2 + 1, none⟩ = some (.int .i64 q2) ∧ w'.cell? ⟨gb, off + i * 2, none⟩ = some (.int .i64 r1) ∧ w'.cell? ⟨gb, off + i * 2 + 1, none⟩ = some (.int .i64 r2))) (by kernel_rfl) ?_ (fun hHeld => ?_)
                  · exact ⟨c0, c1, d0, d1⟩
                  refine wpAnyH_take (i := 0) (oi := ?oiy00) (v := ?vy00) ?hiy00 (by kernel_rfl) (by kernel_rfl) (by kernel_rfl) ?hqy00 ?hyy00 hHeld ?resty00
                  case hiy00 => exact rfl
                  case hqy00 => exact fun _ _ _ h => h
                  case hyy00 =>
                    refine Or.inl ⟨by rfl, ?_⟩
                    intro w hSw
                    (try dsimp only at hSw)
                    go_simp
                    (try with_reducible rfl)
                  try simp only [Act.put, List.getElem_toArray, List.getElem_cons_succ, List.getElem_cons_zero, List.setIfInBounds_toArray, List.set_cons_zero, List.set_cons_succ]
                  refine wpAnyH_take (i := 1) (oi := ?oiy01) (v := ?vy01) ?hiy01 (by kernel_rfl) (by kernel_rfl) (by kernel_rfl) ?hqy01 ?hyy01 hHeld ?resty01
                  case hiy01 => exact rfl
                  case hqy01 => exact fun _ _ _ h => h
                  case hyy01 =>
                    refine Or.inl ⟨by rfl, ?_⟩
                    intro w hSw
                    (try dsimp only at hSw)
                    go_simp
                    (try with_reducible rfl)
                  try simp only [Act.put, List.getElem_toArray, List.getElem_cons_succ, List.getElem_cons_zero, List.setIfInBounds_toArray, List.set_cons_zero, List.set_cons_succ]
                  refine wpAnyH_ready (rs := [2]) (by kernel_rfl) (by simp) ?_
                  refine AllReadyH.cons (o := ?ooy02) ?hoy02 ?hky02 AllReadyH.nil
                  case hoy02 => exact rfl
                  intro K hK
                  go_simp
                  refine (HH.out _ (HZ.out.below (Below.refl _ _).drew (Nat.le_refl _))).mono ?_; rintro e wa ⟨rfl, rfl⟩
                  refine hK.out _ _ ?_ (fun hHeld => ?_)
                  · exact ⟨c0, c1, d0, d1⟩
                  clear hK K
                  try simp only [Act.put, List.getElem_toArray, List.getElem_cons_succ, List.getElem_cons_zero, List.setIfInBounds_toArray, List.set_cons_zero, List.set_cons_succ]
                  refine wpAnyH_take (i := 3) (oi := ?oiy03) (v := ?vy03) ?hiy03 (by kernel_rfl) (by kernel_rfl) (by kernel_rfl) ?hqy03 ?hyy03 hHeld ?resty03
                  case hiy03 => exact rfl
                  case hqy03 => exact fun _ _ _ h => h
                  case hyy03 =>
                    refine Or.inl ⟨by rfl, ?_⟩
                    intro w hSw
                    (try dsimp only at hSw)
                    go_simp
                    (try with_reducible rfl)
                  try simp only [Act.put, List.getElem_toArray, List.getElem_cons_succ, List.getElem_cons_zero, List.setIfInBounds_toArray, List.set_cons_zero, List.set_cons_succ]
                  refine wpAnyH_take (i := 4) (oi := ?oiy04) (v := ?vy04) ?hiy04 (by kernel_rfl) (by kernel_rfl) (by kernel_rfl) ?hqy04 ?hyy04 hHeld ?resty04
                  case hiy04 => exact rfl
                  case hqy04 => exact fun _ _ _ h => h
                  case hyy04 =>
                    refine Or.inl ⟨by rfl, ?_⟩
                    intro w hSw
                    (try dsimp only at hSw)
                    go_simp
                    (try with_reducible rfl)
                  try simp only [Act.put, List.getElem_toArray, List.getElem_cons_succ, List.getElem_cons_zero, List.setIfInBounds_toArray, List.set_cons_zero, List.set_cons_succ]
                  refine wpAnyH_take (i := 5) (oi := ?oiy05) (v := ?vy05) ?hiy05 (by kernel_rfl) (by kernel_rfl) (by kernel_rfl) ?hqy05 ?hyy05 hHeld ?resty05
                  case hiy05 => exact rfl
                  case hqy05 => exact fun _ _ _ h => h
                  case hyy05 =>
                    refine Or.inl ⟨by rfl, ?_⟩
                    intro w hSw
                    (try dsimp only at hSw)
                    go_simp
                    (try with_reducible rfl)
                  try simp only [Act.put, List.getElem_toArray, List.getElem_cons_succ, List.getElem_cons_zero, List.setIfInBounds_toArray, List.set_cons_zero, List.set_cons_succ]
                  refine wpAnyH_take (i := 6) (oi := ?oiy06) (v := ?vy06) ?hiy06 (by kernel_rfl) (by kernel_rfl) (by kernel_rfl) ?hqy06 ?hyy06 hHeld ?resty06
                  case hiy06 => exact rfl
                  case hqy06 => exact fun _ _ _ h => h
                  case hyy06 =>
                    refine Or.inl ⟨by rfl, ?_⟩
                    intro w hSw
                    (try dsimp only at hSw)
                    go_simp
                    (try with_reducible rfl)
                  try simp only [Act.put, List.getElem_toArray, List.getElem_cons_succ, List.getElem_cons_zero, List.setIfInBounds_toArray, List.set_cons_zero, List.set_cons_succ]
                  refine wpAnyH_take (i := 7) (oi := ?oiy07) (v := ?vy07) ?hiy07 (by kernel_rfl) (by kernel_rfl) (by kernel_rfl) ?hqy07 ?hyy07 hHeld ?resty07
                  case hiy07 => exact rfl
                  case hqy07 => exact fun _ _ _ h => h
                  case hyy07 =>
                    refine Or.inl ⟨by rfl, ?_⟩
                    intro w hSw
                    (try dsimp only at hSw)
                    go_simp
                    (try with_reducible rfl)
                  try simp only [Act.put, List.getElem_toArray, List.getElem_cons_succ, List.getElem_cons_zero, List.setIfInBounds_toArray, List.set_cons_zero, List.set_cons_succ]
                  refine wpAnyH_take (i := 8) (oi := ?oiy08) (v := ?vy08) ?hiy08 (by kernel_rfl) (by kernel_rfl) (by kernel_rfl) ?hqy08 ?hyy08 hHeld ?resty08
                  case hiy08 => exact rfl
                  case hqy08 => exact fun _ _ _ h => h
                  case hyy08 =>
                    refine Or.inl ⟨by rfl, ?_⟩
                    intro w hSw
                    (try dsimp only at hSw)
                    go_simp
                    (try with_reducible rfl)
                  try simp only [Act.put, List.getElem_toArray, List.getElem_cons_succ, List.getElem_cons_zero, List.setIfInBounds_toArray, List.set_cons_zero, List.set_cons_succ]
                  refine wpAnyH_take (i := 9) (oi := ?oiy09) (v := ?vy09) ?hiy09 (by kernel_rfl) (by kernel_rfl) (by kernel_rfl) ?hqy09 ?hyy09 hHeld ?resty09
                  case hiy09 => exact rfl
                  case hqy09 => exact fun _ _ _ h => h
                  case hyy09 =>
                    refine Or.inl ⟨by rfl, ?_⟩
                    intro w hSw
                    (try dsimp only at hSw)
                    go_simp
                    (try with_reducible rfl)
                  try simp only [Act.put, List.getElem_toArray, List.getElem_cons_succ, List.getElem_cons_zero, List.setIfInBounds_toArray, List.set_cons_zero, List.set_cons_succ]
                  refine wpAnyH_take (i := 10) (oi := ?oiy10) (v := ?vy10) ?hiy10 (by kernel_rfl) (by kernel_rfl) (by kernel_rfl) ?hqy10 ?hyy10 hHeld ?resty10
                  case hiy10 => exact rfl
                  case hqy10 => exact fun _ _ _ h => h
                  case hyy10 =>
                    refine Or.inl ⟨by rfl, ?_⟩
                    intro w hSw
                    (try dsimp only at hSw)
                    go_simp
                    (try with_reducible rfl)
                  try simp only [Act.put, List.getElem_toArray, List.getElem_cons_succ, List.getElem_cons_zero, List.setIfInBounds_toArray, List.set_cons_zero, List.set_cons_succ]
                  refine wpAnyH_take (i := 11) (oi := ?oiy11) (v := ?vy11) ?hiy11 (by kernel_rfl) (by kernel_rfl) (by kernel_rfl) ?hqy11 ?hyy11 hHeld ?resty11
                  case hiy11 => exact rfl
                  case hqy11 => exact fun _ _ _ h => h
                  case hyy11 =>
                    refine Or.inl ⟨by rfl, ?_⟩
                    intro w hSw
                    (try dsimp only at hSw)
                    go_simp
                    (try with_reducible rfl)
                  try simp only [Act.put, List.getElem_toArray, List.getElem_cons_succ, List.getElem_cons_zero, List.setIfInBounds_toArray, List.set_cons_zero, List.set_cons_succ]
                  refine wpAnyH_take (i := 12) (oi := ?oiy12) (v := ?vy12) ?hiy12 (by kernel_rfl) (by kernel_rfl) (by kernel_rfl) ?hqy12 ?hyy12 hHeld ?resty12
                  case hiy12 => exact rfl
                  case hqy12 => exact fun _ _ _ h => h
                  case hyy12 =>
                    refine Or.inl ⟨by rfl, ?_⟩
                    intro w hSw
                    (try dsimp only at hSw)
                    go_simp
                    (try with_reducible rfl)
                  try simp only [Act.put, List.getElem_toArray, List.getElem_cons_succ, List.getElem_cons_zero, List.setIfInBounds_toArray, List.set_cons_zero, List.set_cons_succ]
                  refine wpAnyH_take (i := 13) (oi := ?oiy13) (v := ?vy13) ?hiy13 (by kernel_rfl) (by kernel_rfl) (by kernel_rfl) ?hqy13 ?hyy13 hHeld ?resty13
                  case hiy13 => exact rfl
                  case hqy13 => exact fun _ _ _ h => h
                  case hyy13 =>
                    refine Or.inl ⟨by rfl, ?_⟩
                    intro w hSw
                    (try dsimp only at hSw)
                    go_simp
                    (try with_reducible rfl)
                  try simp only [Act.put, List.getElem_toArray, List.getElem_cons_succ, List.getElem_cons_zero, List.setIfInBounds_toArray, List.set_cons_zero, List.set_cons_succ]
                  refine wpAnyH_take (i := 14) (oi := ?oiy14) (v := ?vy14) ?hiy14 (by kernel_rfl) (by kernel_rfl) (by kernel_rfl) ?hqy14 ?hyy14 hHeld ?resty14
                  case hiy14 => exact rfl
                  case hqy14 => exact fun _ _ _ h => h
                  case hyy14 =>
                    refine Or.inl ⟨by rfl, ?_⟩
                    intro w hSw
                    (try dsimp only at hSw)
                    go_simp
                    (try with_reducible rfl)
                  try simp only [Act.put, List.getElem_toArray, List.getElem_cons_succ, List.getElem_cons_zero, List.setIfInBounds_toArray, List.set_cons_zero, List.set_cons_succ]
                  refine wpAnyH_take (i := 15) (oi := ?oiy15) (v := ?vy15) ?hiy15 (by kernel_rfl) (by kernel_rfl) (by kernel_rfl) ?hqy15 ?hyy15 hHeld ?resty15
                  case hiy15 => exact rfl
                  case hqy15 => exact fun _ _ _ h => h
                  case hyy15 =>
                    refine Or.inl ⟨by rfl, ?_⟩
                    intro w hSw
                    (try dsimp only at hSw)
                    go_simp
                    (try with_reducible rfl)
                  try simp only [Act.put, List.getElem_toArray, List.getElem_cons_succ, List.getElem_cons_zero, List.setIfInBounds_toArray, List.set_cons_zero, List.set_cons_succ]
                  refine wpAnyH_ready (rs := [16]) (by kernel_rfl) (by simp) ?_
                  refine AllReadyH.cons (o := ?ooy16) ?hoy16 ?hky16 AllReadyH.nil
                  case hoy16 => exact rfl
                  intro K hK
                  go_simp
                  refine (HC.out _).mono ?_; rintro e wa ⟨rfl, hBa⟩; have hBB := (Below.refl _ _).drew.trans hBa
                  refine hK.out _ _ ?_ (fun hHeld => ?_)
                  · exact ⟨(hBB.cell (p := ⟨gb, _, none⟩) hlg).trans c0, (hBB.cell (p := ⟨gb, _, none⟩) hlg).trans c1, (hBB.cell (p := ⟨gb, _, none⟩) hlg).trans d0, (hBB.cell (p := ⟨gb, _, none⟩) hlg).trans d1⟩
                  clear hK K
                  try simp only [Act.put, List.getElem_toArray, List.getElem_cons_succ, List.getElem_cons_zero, List.setIfInBounds_toArray, List.set_cons_zero, List.set_cons_succ]
                  refine wpAnyH_take (i := 17) (oi := ?oiy17) (v := ?vy17) ?hiy17 (by kernel_rfl) (by kernel_rfl) (by kernel_rfl) ?hqy17 ?hyy17 hHeld ?resty17
                  case hiy17 => exact rfl
                  case hqy17 => exact fun _ _ _ h => h
                  case hyy17 =>
                    refine Or.inl ⟨by rfl, ?_⟩
                    intro w hSw
                    (try dsimp only at hSw)
                    go_simp
                    (try with_reducible rfl)
                  try simp only [Act.put, List.getElem_toArray, List.getElem_cons_succ, List.getElem_cons_zero, List.setIfInBounds_toArray, List.set_cons_zero, List.set_cons_succ]
                  refine wpAnyH_take (i := 18) (oi := ?oiy18) (v := ?vy18) ?hiy18 (by kernel_rfl) (by kernel_rfl) (by kernel_rfl) ?hqy18 ?hyy18 hHeld ?resty18
                  case hiy18 => exact rfl
                  case hqy18 => exact fun _ _ _ h => h
                  case hyy18 =>
                    refine Or.inl ⟨by rfl, ?_⟩
                    intro w hSw
                    (try dsimp only at hSw)
                    go_simp
                    (try with_reducible rfl)
                  try simp only [Act.put, List.getElem_toArray, List.getElem_cons_succ, List.getElem_cons_zero, List.setIfInBounds_toArray, List.set_cons_zero, List.set_cons_succ]
                  refine wpAnyH_done (by kernel_rfl) ?_ _
                  go_wp2_with fail
                  go_roundw
                  case rel => exact ⟨i + 1, some i, by omega, by go_num, rfl, HY.out, HJ.out.trans (hBB.mono HJ.out.size)⟩
                  case measure => first | (simp [intOf]; done) | (simp [intOf]; omega)
          · obtain rfl : i = ps.length := by omega
            cases bo with
            | none => exact (HNN.out HBS.out hlt).elim
            | some b =>
              have HN2 := Lib.hid (HN.out b HBS.out)
              have hown := own_below HOW.out HJ.out (Nat.le_refl _)
              have HB3 := Lib.hid (HB2.out.trans (HJ.out.mono HB2.out.size))
              have hws := HB3.out.size
              clear hJ HBS HI HN HNN HR
              simp only [bI]
              go_wp2_with (at_builtin; refine wpList_append_own _ rfl (.tmp 51) (.tmp 53) 23 rfl w1.heap.size 3 i0 (.int .i64 0) 1 8 Try.underlying23 hi0 hz0 hz1' hz2' rfl (by decide) _ _ _ rfl (hown.alloc _) ⟨wr.heap.size, 0, none⟩ 1 1 [.int .i64 (b : Int)] rfl rfl ?c1 ?c2 ?c3 ?c4 ?c5 ?_)
              case c1 => exact cell_one_new _ _ _
              case c2 => simp [Value.oneCell']
              case c3 => unfold maxLen; omega
              case c4 => omega
              case c5 => simp; omega
              intro v' w3 hown' hgrow _
              have hB4 := (HB3.out.alloc HB3.out.size _).grown hgrow (by simp; omega) (own_base hown)
              have e : ns.map (Value.int .i64 ∘ Int.ofNat) ++ [.int .i64 (b : Int)] = ((ns ++ [b]).map Int.ofNat).map (Value.int .i64) := by simp
              have e2 : ns.length + 1 = (ns ++ [b]).length := by simp
              rw [e, e2] at hown'
              obtain ⟨a9, c9, rfl⟩ := own_slice hown'
              have HO := Lib.hid hown'
              clear hown hown' hgrow e e2
              go_wp2_with fail
              go_roundw
              case rel => exact ⟨ns ++ [b], HN2.out, HO.out, hB4⟩
              case measure => simp [slLen]; omega
      · have hn : ns.length = ps.length := by omega
        have HX := Lib.hid (HRK.out ns (HR.out.done hn))
        have HBB := Lib.hid (HB.out.trans (HB2.out.mono HB.out.size))
        clear HR HOW HN HNN
        go_wp2_with fail
        go_ret2
        exact ⟨ns.map Int.ofNat, a8, c8, HX.out, by rw [HNL.out]; rfl, HI.out, HBB.out⟩
  · generalize hc : vpt ps ts = c at HS hz
    have HRK := Lib.hid (show IsRank ps ts [] by unfold IsRank; rw [if_neg (by rw [hc]; exact hz)])
    rw [scA_no (by rw [hc]; exact hz)] at HS
    have hz1 : (c != 0) = true := by simpa using hz
    have hz2 : (c == 0) = false := by simpa using hz
    clear hz hc
    go_enter Try.func41, Try.ntmps41
    go_wp2_with fail
    refine (HS.out _ hp hts).mono ?_
    rintro e w1 ⟨qa, qc, rfl, hq, hB⟩
    go_wp2_with fail
    go_ret2
    exact ⟨[], none, 0, HRK.out, rfl, .inl rfl, hB⟩

end Go.Proofs.Ytndmjenfgggfbaa
