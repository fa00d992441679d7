/- Several texts in one. -/
import Derived.Test.YtjciojoeifekeaaGreatCnL
import Derived.Test.YtjciojoeifekeaaGreatSrtN
import Derived.Shelf.SlSortCmp.NoneTotal
/- others of seek: contract. -/
set_option linter.unusedVariables false
set_option linter.unusedSimpArgs false
namespace Go.Proofs.YtjciojoeifekeaaGreat
open Go.RowKit Tinker

set_option maxRecDepth 100000 in
set_option maxHeartbeats 2000000 in
theorem others_any (g base c : Nat) (zs : List L) (l : L) (w : World) (hO : w.ownsRow base 23 4 (.slice (some ⟨g, 0, none⟩) zs.length c) zs.length (lc zs)) (hm : zs.length ≤ 1000) :
    Calls Tryz.prog 73 #[.slice (some ⟨g, 0, none⟩) zs.length c, lv l] w fun e w' =>
      e = .returned (.slice (some ⟨g, 0, none⟩) (othL zs l).length c) ∧ w'.ownsRow base 23 4 (.slice (some ⟨g, 0, none⟩) (othL zs l).length c) (othL zs l).length (lc (othL zs l)) ∧ Off g w w' := by
  have hgl := own_lt hO
  obtain ⟨W0, hW0⟩ : ∃ W, W = w.alloc (.cells (lV l) 23) := ⟨_, rfl⟩
  have hb : Below w.heap.size w W0 := by rw [hW0]; exact (Below.refl _ _).alloc (Nat.le_refl _) _
  have hP : W0.heap[w.heap.size]? = some (.cells (lV l) 23 (0, 0)) := by rw [hW0]; exact hp_new rfl
  have hO0 := own_below hO hb (Nat.le_refl _)
  have hlt : w.heap.size < W0.heap.size := hp_lt hP
  have H1 := Lib.hid (delOt_any w.heap.size g base c (fun x => eqL x l || !isLn x) zs W0 hO0 hm (fun W hW n => others1_any w.heap.size l n W ((hW.block _ hlt (by omega)).trans hP)))
  have HF0 := Lib.hid (Off.low (g := g) hb)
  have HOT := Lib.hid (fun (sp : List L) h1 h2 => oth_of (sp := sp) (ps := zs) (l := l) h1 h2)
  have hle : (zs.filter fun m => !(eqL m l || !isLn m)).length ≤ 1000 := Nat.le_trans (List.length_filter_le _ _) hm
  clear hO hO0 hb hP hlt
  generalize othL zs l = R at HOT ⊢
  generalize (zs.filter fun m => !(eqL m l || !isLn m)) = z1 at H1 HOT hle
  unfold lv
  unfold lV at hW0
  go_enter Tryz.func73, Tryz.ntmps73
  go_wp2_with fail
  rw [← hW0]
  clear hW0
  refine H1.out.mono ?_
  rintro e w1 ⟨rfl, hO1, hF1⟩
  have H2 := Lib.hid (sortLn_any g base c z1 w1 hO1 hle)
  have HF1 := Lib.hid (HF0.out.trans hF1)
  clear hO1 hF1 H1 HF0
  go_wp2_with fail
  refine H2.out.mono ?_
  rintro e w2 ⟨rfl, sp, hp, hs, hO2, hF2⟩
  have hR := HOT.out sp hp hs
  have hl := hp.length_eq
  have H3 := Lib.hid (compactL_any g base c sp w2 (by rw [hl]; exact hO2) (by omega))
  rw [hR] at H3
  rw [hl] at H3
  have HF2 := Lib.hid (HF1.out.trans hF2)
  clear hO2 hF2 H2 HF1 hR hl hp hs HOT
  go_wp2_with fail
  refine H3.out.mono ?_
  rintro e w3 ⟨rfl, hO3, hF3⟩
  have HO3 := Lib.hid hO3
  have HF3 := Lib.hid (HF2.out.trans hF3)
  clear hO3 hF3 H3 HF2
  go_wp2_with fail
  go_ret
  exact ⟨rfl, HO3.out, HF3.out⟩

end Go.Proofs.YtjciojoeifekeaaGreat

/- others of seek on a nil list. -/
set_option linter.unusedVariables false
set_option linter.unusedSimpArgs false
namespace Go.Proofs.YtjciojoeifekeaaGreat
open Go.RowKit Go.Shelf Tinker

set_option maxHeartbeats 1000000 in
theorem delOtNil_any (P : Nat) (F : L → Bool) (w : World) (hC : ∀ W, Below w.heap.size w W → ∀ n, Calls Tryz.prog 104 #[lv n, .pointer (some ⟨P, 0, none⟩)] W fun e w' => e = .returned (.bool (F n)) ∧ Below W.heap.size W w') :
    Calls Tryz.prog 83 #[.slice none 0 0, .func (.func 104) #[] #[.pointer (some ⟨P, 0, none⟩)]] w fun e w' => e = .returned (.slice none 0 0) ∧ Below w.heap.size w w' := by
  have HI := Lib.hid (idxOt_any P F none 0 [] w (.inl rfl) (by decide) hC)
  rw [show idxF F [] = -1 from rfl] at HI
  clear hC
  go_enter Tryz.func83, Tryz.ntmps83
  go_wp2_with fail
  refine HI.out.mono ?_
  rintro e w1 ⟨rfl, hB⟩
  have HB := Lib.hid hB
  clear hB
  go_wp2_with fail
  go_ret
  exact ⟨rfl, HB.out⟩
set_option maxHeartbeats 1000000 in
theorem compactNil_any (w : World) : Calls Tryz.prog 107 #[.slice none 0 0] w fun e w' => e = .returned (.slice none 0 0) ∧ w = w' := by
  go_enter Tryz.func107, Tryz.ntmps107
  go_wp2_with fail
  go_ret
  exact ⟨rfl, rfl⟩
set_option maxHeartbeats 1000000 in
theorem othersNil_any (l : L) (w : World) : Calls Tryz.prog 73 #[.slice none 0 0, lv l] w fun e w' => e = .returned (.slice none 0 0) ∧ Below w.heap.size w w' := by
  obtain ⟨W0, hW0⟩ : ∃ W, W = w.alloc (.cells (lV l) 23) := ⟨_, rfl⟩
  have hb : Below w.heap.size w W0 := by rw [hW0]; exact (Below.refl _ _).alloc (Nat.le_refl _) _
  have hP : W0.heap[w.heap.size]? = some (.cells (lV l) 23 (0, 0)) := by rw [hW0]; exact hp_new rfl
  have H1 := Lib.hid (delOtNil_any w.heap.size (fun x => eqL x l || !isLn x) W0 (fun W hW n => others1_any w.heap.size l n W (hp_below hP hW (hp_lt hP))))
  have H2 := Lib.hid (fun w => AnyF.slices_SortFunc_none sortLines none 0 (.func (.func 106) #[] #[]) w)
  have H3 := Lib.hid (fun w => compactNil_any w)
  have HB := Lib.hid hb
  clear hb hP
  unfold lv
  unfold lV at hW0
  go_enter Tryz.func73, Tryz.ntmps73
  go_wp2_with fail
  rw [← hW0]
  clear hW0
  refine H1.out.mono ?_
  rintro e w1 ⟨rfl, hB⟩
  have HB1 := Lib.hid (HB.out.trans (hB.mono HB.out.size))
  clear hB
  go_wp2_with fail
  refine (H2.out _).mono ?_
  rintro e w2 ⟨rfl, rfl⟩
  go_wp2_with fail
  refine (H3.out _).mono ?_
  rintro e w3 ⟨rfl, rfl⟩
  go_wp2_with fail
  go_ret
  exact ⟨rfl, HB1.out⟩

end Go.Proofs.YtjciojoeifekeaaGreat

/- sources and sourceOf of seek: contracts. -/
set_option linter.unusedVariables false
set_option linter.unusedSimpArgs false
namespace Go.Proofs.YtjciojoeifekeaaGreat
open Go.RowKit Go.Shelf Tinker

/-- The source of a kind. -/
def srcV (n : Int) : Value := if n = 0 then .iface 114 (.agg #[]) else if n = 1 then .iface 131 (.agg #[]) else .iface 132 (.agg #[])
def srcC : Array Value := #[.iface 114 (.agg #[]), .iface 131 (.agg #[]), .iface 132 (.agg #[])]

set_option maxHeartbeats 1000000 in
theorem sources_any (w : World) : Calls Tryz.prog 82 #[] w fun e w' => e = .returned (.slice (some ⟨w.heap.size, 0, none⟩) 3 3) ∧ w'.heap[w.heap.size]? = some (.cells srcC 69 (0, 0)) ∧ Below w.heap.size w w' := by
  go_enter Tryz.func82, Tryz.ntmps82
  go_wp2_with fail
  go_ret
  exact ⟨rfl, hp_new rfl, (Below.refl _ _).alloc (Nat.le_refl _) _⟩

set_option maxHeartbeats 400000 in
theorem kind0_any (w : World) : Calls Tryz.prog 189 #[.agg #[]] w fun e w' => e = .returned (.int .i64 0) ∧ Below w.heap.size w w' := by
  go_enter Tryz.func189, Tryz.ntmps189
  go_wp2_with fail
  go_ret
  exact ⟨rfl, (Below.refl _ _).alloc (Nat.le_refl _) _⟩
set_option maxHeartbeats 400000 in
theorem kind1_any (w : World) : Calls Tryz.prog 190 #[.agg #[]] w fun e w' => e = .returned (.int .i64 1) ∧ Below w.heap.size w w' := by
  go_enter Tryz.func190, Tryz.ntmps190
  go_wp2_with fail
  go_ret
  exact ⟨rfl, (Below.refl _ _).alloc (Nat.le_refl _) _⟩
set_option maxHeartbeats 400000 in
theorem kind2_any (w : World) : Calls Tryz.prog 191 #[.agg #[]] w fun e w' => e = .returned (.int .i64 2) ∧ Below w.heap.size w w' := by
  go_enter Tryz.func191, Tryz.ntmps191
  go_wp2_with fail
  go_ret
  exact ⟨rfl, (Below.refl _ _).alloc (Nat.le_refl _) _⟩

set_option maxRecDepth 100000 in
set_option maxHeartbeats 2000000 in
theorem sourceOf_any (n : Int) (w : World) (h0 : 0 ≤ n) (h2 : n ≤ 2) : Calls Tryz.prog 45 #[.int .i64 n] w fun e w' => e = .returned (.tuple #[srcV n, .bool true]) ∧ Below w.heap.size w w' := by
  have HS := Lib.hid (fun w => sources_any w)
  have HK0 := Lib.hid (fun w => kind0_any w)
  have HK1 := Lib.hid (fun w => kind1_any w)
  have HK2 := Lib.hid (fun w => kind2_any w)
  have hm0 : ∀ (k : Nat) (w : World), Sem.run Tryz.prog (method (k + 1) 114 (.agg #[]) "tinker/seek.kind") w = .ok (189, .agg #[]) w := fun k w => by kernel_rfl
  have hm1 : ∀ (k : Nat) (w : World), Sem.run Tryz.prog (method (k + 1) 131 (.agg #[]) "tinker/seek.kind") w = .ok (190, .agg #[]) w := fun k w => by kernel_rfl
  have hm2 : ∀ (k : Nat) (w : World), Sem.run Tryz.prog (method (k + 1) 132 (.agg #[]) "tinker/seek.kind") w = .ok (191, .agg #[]) w := fun k w => by kernel_rfl
  go_enter Tryz.func45, Tryz.ntmps45
  go_wp2_with fail
  refine (HS.out _).mono ?_
  rintro e w1 ⟨rfl, hg, hB⟩
  have HG := Lib.hid hg
  have HB := Lib.hid hB
  clear hg hB HS
  go_wp2_with fail
  go_loopw [8] (fun s8 wr => ∃ k : Nat, (k : Int) ≤ n ∧ s8 = .int .i64 k ∧ wr.heap[w.heap.size]? = some (.cells srcC 69 (0, 0)) ∧ Below w.heap.size w wr) (fun s8 _ => 3 - (intOf s8).toNat)
  case atStart => exact ⟨0, by simpa using h0, rfl, HG.out, HB.out⟩
  case round =>
    clear HG HB
    obtain ⟨k, hk, rfl, hg, hB⟩ := hrel
    have HG := Lib.hid hg
    have HB := Lib.hid hB
    have hk3 : k = 0 ∨ k = 1 ∨ k = 2 := by omega
    clear hg hB
    have g0 : wr.cell? ⟨w.heap.size, 0, none⟩ = some (.iface 114 (.agg #[])) := hp_cell HG.out (by rfl)
    have g1 : wr.cell? ⟨w.heap.size, 1, none⟩ = some (.iface 131 (.agg #[])) := hp_cell HG.out (by rfl)
    have g2 : wr.cell? ⟨w.heap.size, 2, none⟩ = some (.iface 132 (.agg #[])) := hp_cell HG.out (by rfl)
    rcases hk3 with rfl | rfl | rfl
    · by_cases hn : n = 0
      · subst hn
        go_wp2_with fail
        refine (HK0.out _).mono ?_
        rintro e w2 ⟨rfl, hB⟩
        have HG := Lib.hid (hp_below HG.out hB (hp_lt HG.out))
        have HB := Lib.hid (HB.out.trans (hB.mono HB.out.size))
        clear hB g0 g1 g2
        go_wp2_with fail
        go_ret2
        exact ⟨rfl, HB.out⟩
      · have hn1 : ((0 : Int) == n) = false := by simpa using fun h : (0 : Int) = n => hn h.symm
        have hn2 : (1 : Int) ≤ n := by omega
        go_wp2_with fail
        refine (HK0.out _).mono ?_
        rintro e w2 ⟨rfl, hB⟩
        have HG := Lib.hid (hp_below HG.out hB (hp_lt HG.out))
        have HB := Lib.hid (HB.out.trans (hB.mono HB.out.size))
        clear hB g0 g1 g2
        go_wp2_with fail
        go_roundw
        case rel => exact ⟨1, by simpa using hn2, by go_num, HG.out, HB.out⟩
        case measure => simp [intOf]
    · by_cases hn : n = 1
      · subst hn
        go_wp2_with fail
        refine (HK1.out _).mono ?_
        rintro e w2 ⟨rfl, hB⟩
        have HG := Lib.hid (hp_below HG.out hB (hp_lt HG.out))
        have HB := Lib.hid (HB.out.trans (hB.mono HB.out.size))
        clear hB g0 g1 g2
        go_wp2_with fail
        go_ret2
        exact ⟨rfl, HB.out⟩
      · have hn1 : ((1 : Int) == n) = false := by simpa using fun h : (1 : Int) = n => hn h.symm
        have hn2 : (2 : Int) ≤ n := by have : (1 : Int) ≤ n := by simpa using hk
                                       omega
        go_wp2_with fail
        refine (HK1.out _).mono ?_
        rintro e w2 ⟨rfl, hB⟩
        have HG := Lib.hid (hp_below HG.out hB (hp_lt HG.out))
        have HB := Lib.hid (HB.out.trans (hB.mono HB.out.size))
        clear hB g0 g1 g2
        go_wp2_with fail
        go_roundw
        case rel => exact ⟨2, by simpa using hn2, by go_num, HG.out, HB.out⟩
        case measure => simp [intOf]
    · have hn : n = 2 := by have : (2 : Int) ≤ n := by simpa using hk
                            omega
      subst hn
      go_wp2_with fail
      refine (HK2.out _).mono ?_
      rintro e w2 ⟨rfl, hB⟩
      have HG := Lib.hid (hp_below HG.out hB (hp_lt HG.out))
      have HB := Lib.hid (HB.out.trans (hB.mono HB.out.size))
      clear hB g0 g1 g2
      go_wp2_with fail
      go_ret2
      exact ⟨rfl, HB.out⟩

end Go.Proofs.YtjciojoeifekeaaGreat
