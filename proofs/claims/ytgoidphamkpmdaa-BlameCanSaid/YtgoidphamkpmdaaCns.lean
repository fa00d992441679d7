/- BlameCan: the walk. -/
import Derived.Test.YtgoidphamkpmdaaBlI
import Derived.Test.YtgoidphamkpmdaaRcn
set_option linter.unusedVariables false
set_option linter.unusedSimpArgs false
namespace Go.Proofs.Ytgoidphamkpmdaa
open Go.RowKit Tinker

theorem cn_pass {ps : List L} {t : T} {ls vs : List Int} (h : cnO ps t ls = some vs) : cpC ps t ls vs = 0 ∧ vs.length ≤ 2 := by
  unfold cnO at h
  by_cases hc : cnC ps t ls = 0
  · rw [if_pos hc] at h
    unfold cnC at hc
    by_cases hz : vpt ps [t] = 0
    · rw [if_pos hz] at hc
      unfold pickO at h
      have h1 := List.find?_some h
      have h2 := List.mem_of_find?_eq_some h
      rw [compl_pk] at h2
      unfold pasF at h1
      rw [Bool.and_eq_true] at h1
      have h3 : fC ps t.inn ls vs = 0 := by simpa using h1.1
      have h4 : ((fA ps t.inn ls vs).getD t.out.toNat 0 != t.want) = false := by rw [bne_eq_false_iff_eq]; simpa using h1.2
      refine ⟨?_, by rw [pkL_in h2]; exact (lnC_ok hc).2.2.1⟩
      unfold cpC
      rw [if_pos hz, if_pos h3, h4]
      rfl
    · rw [if_neg hz] at hc
      exact absurd hc hz
  · rw [if_neg hc] at h
    cases h
theorem cn_len {ps : List L} {t : T} {ls : List Int} : ((cnO ps t ls).getD []).length ≤ 2 := by
  cases h : cnO ps t ls with
  | none => simp
  | some vs => exact (cn_pass h).2

set_option maxRecDepth 100000 in
set_option maxHeartbeats 4000000 in
theorem blameCan_walk (a : Option Addr) (ca : Nat) (ps : List L) (b : Option Addr) (cb : Nat) (t : T) (c : Option Addr) (cc : Nat) (ls : List Int) (w : World) (hp : LinesAt w a ps) (hc0 : a = none → ca = 0) (hs : IntsAt w b t.inn) (hc1 : b = none → cb = 0) (hl : IntsAt w c ls) (hc2 : c = none → cc = 0) :
    Calls Try.prog 12 #[.slice a ps.length ca, .agg #[.slice b t.inn.length cb, .int .i64 t.out, .int .i64 t.want], .slice c ls.length cc] w fun e w' => e = .returned (.bool true) ∧ Below w.heap.size w w' := by
  clear hc0 hc1 hc2
  have HK := Lib.hid (fun w => known3_true w)
  have HL := Lib.hid (fun w => long_any a ps.length ca w)
  have HG1 := Lib.hid (fun w => large3_any b t.inn.length cb w)
  have HG2 := Lib.hid (fun w => large3_any c ls.length cc w)
  have HI := Lib.hid (boxT_new (a := b) (n := t.inn.length) (ca := cb) (out := t.out) (want := t.want) w)
  have x0 := HI.out.c0
  by_cases g1 : 100 < ps.length
  · rw [show decide ((100 : Int) < (ps.length : Int)) = true by simp; omega] at HL
    clear hp hs hl g1
    go_enter Try.func12, Try.ntmps12
    go_wp2_with fail
    refine (HL.out _).mono ?_
    rintro e w1 ⟨rfl, rfl⟩
    go_wp2_with fail
    refine (HK.out _).mono ?_
    rintro e w2 ⟨rfl, hB⟩
    go_wp2_with fail
    go_ret
    exact ⟨rfl, (HI.out.low hB).below⟩
  rw [show decide ((100 : Int) < (ps.length : Int)) = false by simp; omega] at HL
  by_cases g2 : 100 < t.inn.length
  · rw [show decide ((100 : Int) < (t.inn.length : Int)) = true by simp; omega] at HG1
    clear hp hs hl g1 g2
    go_enter Try.func12, Try.ntmps12
    go_wp2_with fail
    refine (HL.out _).mono ?_
    rintro e w1 ⟨rfl, rfl⟩
    go_wp2_with fail
    refine (HG1.out _).mono ?_
    rintro e w1 ⟨rfl, rfl⟩
    go_wp2_with fail
    refine (HK.out _).mono ?_
    rintro e w2 ⟨rfl, hB⟩
    go_wp2_with fail
    go_ret
    exact ⟨rfl, (HI.out.low hB).below⟩
  rw [show decide ((100 : Int) < (t.inn.length : Int)) = false by simp; omega] at HG1
  by_cases g3 : 100 < ls.length
  · rw [show decide ((100 : Int) < (ls.length : Int)) = true by simp; omega] at HG2
    clear hp hs hl g1 g2 g3
    go_enter Try.func12, Try.ntmps12
    go_wp2_with fail
    refine (HL.out _).mono ?_
    rintro e w1 ⟨rfl, rfl⟩
    go_wp2_with fail
    refine (HG1.out _).mono ?_
    rintro e w1 ⟨rfl, rfl⟩
    go_wp2_with fail
    refine (HG2.out _).mono ?_
    rintro e w1 ⟨rfl, rfl⟩
    go_wp2_with fail
    refine (HK.out _).mono ?_
    rintro e w2 ⟨rfl, hB⟩
    go_wp2_with fail
    go_ret
    exact ⟨rfl, (HI.out.low hB).below⟩
  rw [show decide ((100 : Int) < (ls.length : Int)) = false by simp; omega] at HG2
  have C1 := Lib.hid (fun w hp hs hl => CanPass_any a b c ca cb cc ps t ls w hp hs hl (by omega) (by omega) (by omega))
  have C2 := Lib.hid (fun w hp hs hl => rCanPass_any a b c ca cb cc ps t ls w hp hs hl (by omega) (by omega))
  have C3 := Lib.hid (fun d cd vs w hp hs hl hv hm => CheckPass_any a b c d ca cb cc cd ps t ls vs w hp hs hl hv (by omega) (by omega) hm)
  have HCN := Lib.hid (fun vs h => cn_pass (ps := ps) (t := t) (ls := ls) (vs := vs) h)
  have hOl := cn_len (ps := ps) (t := t) (ls := ls)
  have HP := Lib.hid hp
  have HS := Lib.hid hs
  have HLS := Lib.hid hl
  generalize cnC ps t ls = co at C1 C2
  generalize cnO ps t ls = O at C1 C2 HCN hOl
  generalize cpC ps t ls = F at C3 HCN
  obtain ⟨inn, out, want⟩ := t
  simp only at *
  clear hp hs hl g1 g2 g3
  have S1 := Lib.hid (fun b c cb cc w h1 h2 => same_self (O.getD []).length b c cb cc (O.getD []) w rfl h1 h2 (by omega))
  cases O with
  | none =>
    clear HCN C3
    go_enter Try.func12, Try.ntmps12
    go_wp2_with fail
    refine (HL.out _).mono ?_
    rintro e w1 ⟨rfl, rfl⟩
    go_wp2_with fail
    refine (HG1.out _).mono ?_
    rintro e w1 ⟨rfl, rfl⟩
    go_wp2_with fail
    refine (HG2.out _).mono ?_
    rintro e w1 ⟨rfl, rfl⟩
    have x1 := HI.out.c1
    have x2 := HI.out.c2
    go_wp2_with fail
    refine (C1.out _ (HP.out.below HI.out.below (Nat.le_refl _)) (HS.out.below HI.out.below (Nat.le_refl _)) (HLS.out.below HI.out.below (Nat.le_refl _))).mono ?_
    rintro e w2 ⟨a2, c2, rfl, h2, hB⟩
    have HI2 := Lib.hid (HI.out.low hB)
    have R2 := Lib.hid h2
    clear h2 hB x0 x1 x2
    have x0 := HI2.out.c0
    have x1 := HI2.out.c1
    have x2 := HI2.out.c2
    go_wp2_with fail
    refine (C2.out _ (HP.out.below HI2.out.below (Nat.le_refl _)) (HS.out.below HI2.out.below (Nat.le_refl _)) (HLS.out.below HI2.out.below (Nat.le_refl _))).mono ?_
    rintro e w3 ⟨a3, c3, rfl, h3, hB⟩
    have HI3 := Lib.hid (HI2.out.low hB)
    have R2 := Lib.hid (R2.out.below hB (Nat.le_refl _))
    have R3 := Lib.hid h3
    clear h3 hB x0 x1 x2
    go_wp2_with fail
    refine (S1.out _ _ _ _ _ R2.out R3.out).mono ?_
    rintro e w4 ⟨rfl, hB⟩
    have HI4 := Lib.hid (HI3.out.low hB)
    clear hB
    have x0 := HI4.out.c0
    have x1 := HI4.out.c1
    have x2 := HI4.out.c2
    go_wp2_with fail
    refine (HK.out _).mono ?_
    rintro e w5 ⟨rfl, hB⟩
    go_wp2_with fail
    go_ret
    exact ⟨rfl, (HI4.out.low hB).below⟩
  | some vs =>
    obtain ⟨e1, e2⟩ := HCN.out vs rfl
    have C4 := Lib.hid (fun d cd w hp hs hl hv => C3.out d cd vs w hp hs hl hv (by omega))
    rw [e1] at C4
    rw [Option.getD_some] at S1
    have e3 : (some vs).getD [] = vs := rfl
    have e4 : (some vs).isSome = true := rfl
    unfold GivesOE at C1 C2
    rw [e3, e4] at C1 C2
    clear HCN C3 e1 e3 e4 hOl
    go_enter Try.func12, Try.ntmps12
    go_wp2_with fail
    refine (HL.out _).mono ?_
    rintro e w1 ⟨rfl, rfl⟩
    go_wp2_with fail
    refine (HG1.out _).mono ?_
    rintro e w1 ⟨rfl, rfl⟩
    go_wp2_with fail
    refine (HG2.out _).mono ?_
    rintro e w1 ⟨rfl, rfl⟩
    have x1 := HI.out.c1
    have x2 := HI.out.c2
    go_wp2_with fail
    refine (C1.out _ (HP.out.below HI.out.below (Nat.le_refl _)) (HS.out.below HI.out.below (Nat.le_refl _)) (HLS.out.below HI.out.below (Nat.le_refl _))).mono ?_
    rintro e w2 ⟨a2, c2, rfl, h2, hB⟩
    have HI2 := Lib.hid (HI.out.low hB)
    have R2 := Lib.hid h2
    clear h2 hB x0 x1 x2
    have x0 := HI2.out.c0
    have x1 := HI2.out.c1
    have x2 := HI2.out.c2
    go_wp2_with fail
    refine (C2.out _ (HP.out.below HI2.out.below (Nat.le_refl _)) (HS.out.below HI2.out.below (Nat.le_refl _)) (HLS.out.below HI2.out.below (Nat.le_refl _))).mono ?_
    rintro e w3 ⟨a3, c3, rfl, h3, hB⟩
    have HI3 := Lib.hid (HI2.out.low hB)
    have R2 := Lib.hid (R2.out.below hB (Nat.le_refl _))
    have R3 := Lib.hid h3
    clear h3 hB x0 x1 x2
    go_wp2_with fail
    refine (S1.out _ _ _ _ _ R2.out R3.out).mono ?_
    rintro e w4 ⟨rfl, hB⟩
    have HI4 := Lib.hid (HI3.out.low hB)
    have R2 := Lib.hid (R2.out.below hB (Nat.le_refl _))
    clear hB
    have x0 := HI4.out.c0
    have x1 := HI4.out.c1
    have x2 := HI4.out.c2
    go_wp2_with fail
    refine (C4.out _ _ _ (HP.out.below HI4.out.below (Nat.le_refl _)) (HS.out.below HI4.out.below (Nat.le_refl _)) (HLS.out.below HI4.out.below (Nat.le_refl _)) R2.out).mono ?_
    rintro e w5 ⟨rfl, hB⟩
    have HI5 := Lib.hid (HI4.out.low hB)
    clear hB
    go_wp2_with fail
    refine (HK.out _).mono ?_
    rintro e w6 ⟨rfl, hB⟩
    go_wp2_with fail
    go_ret
    exact ⟨rfl, (HI5.out.low hB).below⟩

end Go.Proofs.Ytgoidphamkpmdaa
