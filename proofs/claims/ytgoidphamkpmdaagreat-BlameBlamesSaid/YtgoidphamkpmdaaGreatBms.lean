/- BlameBlames: the walk, from the fact that what is to blame hits the slices. -/
import Derived.Test.YtgoidphamkpmdaaGreatBlI
import Derived.Test.YtgoidphamkpmdaaGreatRit
import Derived.Test.YtgoidphamkpmdaaGreatBlS
set_option linter.unusedVariables false
set_option linter.unusedSimpArgs false
namespace Go.Proofs.YtgoidphamkpmdaaGreat
open Go.RowKit Tinker

set_option maxRecDepth 100000 in
set_option maxHeartbeats 4000000 in
theorem blameBlames_walk0 (a : Option Addr) (ca : Nat) (ps : List L) (g : Option Addr) (cg : Nat) (ts : List T) (c : Option Addr) (cc : Nat) (ls : List Int) (w : World) (hp : LinesAt w a ps) (hts : TestsAt w g ts) (hl : IntsAt w c ls)
    (hh : itB ps ts ls = true → vpt ps ts = 0 ∧ hitV (slL ps ts) ls = true ∧ hitC (slL ps ts) ls = 0) :
    Calls Tryz.prog 4 #[.slice a ps.length ca, .slice g ts.length cg, .slice c ls.length cc] w fun e w' => e = .returned (.bool true) ∧ Below w.heap.size w w' := by
  have HK := Lib.hid (fun w => known3_true w)
  have HL := Lib.hid (fun w => long_any a ps.length ca w)
  have HM := Lib.hid (many_any g cg ts w hts)
  have HG := Lib.hid (fun w => large3_any c ls.length cc w)
  by_cases g1 : 100 < ps.length
  · rw [show decide ((100 : Int) < (ps.length : Int)) = true by simp; omega] at HL
    clear hp hts hl hh g1
    go_enter Tryz.func4, Tryz.ntmps4
    go_wp2_with fail
    refine (HL.out _).mono ?_
    rintro e w1 ⟨rfl, rfl⟩
    go_wp2_with fail
    refine (HK.out _).mono ?_
    rintro e w2 ⟨rfl, hB⟩
    go_wp2_with fail
    go_ret
    exact ⟨rfl, hB⟩
  rw [show decide ((100 : Int) < (ps.length : Int)) = false by simp; omega] at HL
  cases hmb : manyB ts
  rotate_left
  · rw [hmb] at HM
    clear hp hts hl hh g1 hmb
    go_enter Tryz.func4, Tryz.ntmps4
    go_wp2_with fail
    refine (HL.out _).mono ?_
    rintro e w1 ⟨rfl, rfl⟩
    go_wp2_with fail
    refine HM.out.mono ?_
    rintro e w1 ⟨rfl, hB1⟩
    have HB1 := Lib.hid hB1
    clear hB1
    go_wp2_with fail
    refine (HK.out _).mono ?_
    rintro e w2 ⟨rfl, hB⟩
    go_wp2_with fail
    go_ret
    exact ⟨rfl, HB1.out.trans (hB.mono HB1.out.size)⟩
  rw [hmb] at HM
  obtain ⟨t50, t100⟩ := many_no hmb
  have hml : ∀ t ∈ ts, t.inn.length ≤ 1000 := fun t ht => by have := t100 t ht; omega
  by_cases g3 : 100 < ls.length
  · rw [show decide ((100 : Int) < (ls.length : Int)) = true by simp; omega] at HG
    clear hp hts hl hh g1 hmb g3 t50 t100 hml
    go_enter Tryz.func4, Tryz.ntmps4
    go_wp2_with fail
    refine (HL.out _).mono ?_
    rintro e w1 ⟨rfl, rfl⟩
    go_wp2_with fail
    refine HM.out.mono ?_
    rintro e w1 ⟨rfl, hB1⟩
    have HB1 := Lib.hid hB1
    clear hB1
    go_wp2_with fail
    refine (HG.out _).mono ?_
    rintro e w1 ⟨rfl, rfl⟩
    go_wp2_with fail
    refine (HK.out _).mono ?_
    rintro e w2 ⟨rfl, hB⟩
    go_wp2_with fail
    go_ret
    exact ⟨rfl, HB1.out.trans (hB.mono HB1.out.size)⟩
  rw [show decide ((100 : Int) < (ls.length : Int)) = false by simp; omega] at HG
  have C1 := Lib.hid (fun w hp hts hl => IsToBlame_any a g c ca cg cc ps ts ls w hp hts hl (by omega) hml (by omega) (by omega))
  have C2 := Lib.hid (fun w hp hts hl => rIsToBlame_any a g c ca cg cc ps ts ls w hp hts hl (by omega) (by omega) (by omega))
  have C3 := Lib.hid (fun w hp hts => Slices_any a g ca cg ps ts w hp hts (by omega) hml)
  have hX2 := fun z h => setB_len (slL_small (ps := ps) (ts := ts) (z := z) h)
  have C4 := Lib.hid (fun b cb w h1 h2 => Hits_any b c cb cc (slL ps ts) ls w h1 h2 (fun z hz => by have := hX2 z hz; omega) (by omega))
  have HH := Lib.hid hh
  have HP := Lib.hid hp
  have HT := Lib.hid hts
  have HLS := Lib.hid hl
  generalize hitV (slL ps ts) ls = V at C4 HH
  generalize hitC (slL ps ts) ls = k at C4 HH
  generalize slL ps ts = X at C3 C4
  generalize vpt ps ts = v at C3 HH
  generalize itB ps ts ls = B at C1 C2 HH
  generalize itC ps ts ls = co at C1 C2
  clear hp hts hl hh g1 hmb g3 t50 t100 hml hX2
  cases B with
  | false =>
    clear HH C3 C4
    go_enter Tryz.func4, Tryz.ntmps4
    go_wp2_with fail
    refine (HL.out _).mono ?_
    rintro e w1 ⟨rfl, rfl⟩
    go_wp2_with fail
    refine HM.out.mono ?_
    rintro e w0 ⟨rfl, hB0⟩
    have HB0 := Lib.hid hB0
    clear hB0
    go_wp2_with fail
    refine (HG.out _).mono ?_
    rintro e w1 ⟨rfl, rfl⟩
    go_wp2_with fail
    refine (C1.out _ (HP.out.below HB0.out (Nat.le_refl _)) (HT.out.below HB0.out (Nat.le_refl _)) (HLS.out.below HB0.out (Nat.le_refl _))).mono ?_
    rintro e w1 ⟨rfl, hB1⟩
    have HB1 := Lib.hid (HB0.out.trans (hB1.mono HB0.out.size))
    clear hB1
    go_wp2_with fail
    refine (C2.out _ (HP.out.below HB1.out (Nat.le_refl _)) (HT.out.below HB1.out (Nat.le_refl _)) (HLS.out.below HB1.out (Nat.le_refl _))).mono ?_
    rintro e w2 ⟨rfl, hB2⟩
    have HB2 := Lib.hid (HB1.out.trans (hB2.mono HB1.out.size))
    clear hB2
    go_wp2_with fail
    refine (HK.out _).mono ?_
    rintro e w8 ⟨rfl, hB⟩
    go_wp2_with fail
    go_ret
    exact ⟨rfl, HB2.out.trans (hB.mono HB2.out.size)⟩
  | true =>
    obtain ⟨rfl, rfl, rfl⟩ := HH.out rfl
    clear HH
    go_enter Tryz.func4, Tryz.ntmps4
    go_wp2_with fail
    refine (HL.out _).mono ?_
    rintro e w1 ⟨rfl, rfl⟩
    go_wp2_with fail
    refine HM.out.mono ?_
    rintro e w0 ⟨rfl, hB0⟩
    have HB0 := Lib.hid hB0
    clear hB0
    go_wp2_with fail
    refine (HG.out _).mono ?_
    rintro e w1 ⟨rfl, rfl⟩
    go_wp2_with fail
    refine (C1.out _ (HP.out.below HB0.out (Nat.le_refl _)) (HT.out.below HB0.out (Nat.le_refl _)) (HLS.out.below HB0.out (Nat.le_refl _))).mono ?_
    rintro e w1 ⟨rfl, hB1⟩
    have HB1 := Lib.hid (HB0.out.trans (hB1.mono HB0.out.size))
    clear hB1
    go_wp2_with fail
    refine (C2.out _ (HP.out.below HB1.out (Nat.le_refl _)) (HT.out.below HB1.out (Nat.le_refl _)) (HLS.out.below HB1.out (Nat.le_refl _))).mono ?_
    rintro e w2 ⟨rfl, hB2⟩
    have HB2 := Lib.hid (HB1.out.trans (hB2.mono HB1.out.size))
    clear hB2
    go_wp2_with fail
    refine (C3.out _ (HP.out.below HB2.out (Nat.le_refl _)) (HT.out.below HB2.out (Nat.le_refl _))).mono ?_
    rintro e w3 ⟨a3, c3, rfl, h3, hB3⟩
    have R3 := Lib.hid h3.at_
    have HB3 := Lib.hid (HB2.out.trans (hB3.mono HB2.out.size))
    clear h3 hB3
    go_wp2_with fail
    refine (C4.out _ _ _ R3.out (HLS.out.below HB3.out (Nat.le_refl _))).mono ?_
    rintro e w4 ⟨rfl, hB4⟩
    have HB4 := Lib.hid (HB3.out.trans (hB4.mono HB3.out.size))
    clear hB4
    go_wp2_with fail
    refine (HK.out _).mono ?_
    rintro e w8 ⟨rfl, hB⟩
    go_wp2_with fail
    go_ret
    exact ⟨rfl, HB4.out.trans (hB.mono HB4.out.size)⟩

end Go.Proofs.YtgoidphamkpmdaaGreat
