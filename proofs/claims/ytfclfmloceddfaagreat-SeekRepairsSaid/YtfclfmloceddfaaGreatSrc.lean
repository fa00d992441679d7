/- Several texts in one. -/
import Derived.Test.YtfclfmloceddfaaGreatCnL
import Derived.Test.YtfclfmloceddfaaGreatSrtN
import Derived.Shelf.SlSortCmp.NoneTotal
/- others of seek: contract. -/
set_option linter.unusedVariables false
set_option linter.unusedSimpArgs false
namespace Go.Proofs.YtfclfmloceddfaaGreat
open Go.RowKit Tinker

set_option maxRecDepth 100000 in
set_option maxHeartbeats 2000000 in
theorem others_any (g base c : Nat) (zs : List L) (l : L) (w : World) (hO : w.ownsRow base 42 4 (.slice (some ⟨g, 0, none⟩) zs.length c) zs.length (lc zs)) (hm : zs.length ≤ 1000) :
    Calls Tryz.prog 84 #[.slice (some ⟨g, 0, none⟩) zs.length c, lv l] w fun e w' =>
      e = .returned (.slice (some ⟨g, 0, none⟩) (othL zs l).length c) ∧ w'.ownsRow base 42 4 (.slice (some ⟨g, 0, none⟩) (othL zs l).length c) (othL zs l).length (lc (othL zs l)) ∧ Off g w w' := by
  have hgl := own_lt hO
  obtain ⟨W0, hW0⟩ : ∃ W, W = w.alloc (.cells (lV l) 42) := ⟨_, rfl⟩
  have hb : Below w.heap.size w W0 := by rw [hW0]; exact (Below.refl _ _).alloc (Nat.le_refl _) _
  have hP : W0.heap[w.heap.size]? = some (.cells (lV l) 42 (0, 0)) := by rw [hW0]; exact hp_new rfl
  have hO0 := own_below hO hb (Nat.le_refl _)
  have hlt : w.heap.size < W0.heap.size := hp_lt hP
  have H1 := Lib.hid (delOt_any w.heap.size g base c (fun x => eqL x l || !isLn x) zs W0 hO0 hm (fun W hW n => others1_any w.heap.size l n W ((hW.block _ hlt (by omega)).trans hP)))
  have HF0 := Lib.hid (Off.low (g := g) hb)
  have HOT := Lib.hid (fun (sp : List L) h1 h2 => oth_of (sp := sp) (ps := zs) (l := l) h1 h2)
  have hle : (zs.filter fun m => !(eqL m l || !isLn m)).length ≤ 1000 := Nat.le_trans (List.length_filter_le _ _) hm
  clear hO hO0 hb hP hlt
  generalize othL zs l = R at HOT ⊢
  generalize (zs.filter fun m => !(eqL m l || !isLn m)) = z1 at H1 HOT hle
  unfold lv
  unfold lV at hW0
  go_enter Tryz.func84, Tryz.ntmps84
  go_wp2_with fail
  rw [← hW0]
  clear hW0
  refine H1.out.mono ?_
  rintro e w1 ⟨rfl, hO1, hF1⟩
  have H2 := Lib.hid (sortLn_any g base c z1 w1 hO1 hle)
  have HF1 := Lib.hid (HF0.out.trans hF1)
  clear hO1 hF1 H1 HF0
  go_wp2_with fail
  refine H2.out.mono ?_
  rintro e w2 ⟨rfl, sp, hp, hs, hO2, hF2⟩
  have hR := HOT.out sp hp hs
  have hl := hp.length_eq
  have H3 := Lib.hid (compactL_any g base c sp w2 (by rw [hl]; exact hO2) (by omega))
  rw [hR] at H3
  rw [hl] at H3
  have HF2 := Lib.hid (HF1.out.trans hF2)
  clear hO2 hF2 H2 HF1 hR hl hp hs HOT
  go_wp2_with fail
  refine H3.out.mono ?_
  rintro e w3 ⟨rfl, hO3, hF3⟩
  have HO3 := Lib.hid hO3
  have HF3 := Lib.hid (HF2.out.trans hF3)
  clear hO3 hF3 H3 HF2
  go_wp2_with fail
  go_ret
  exact ⟨rfl, HO3.out, HF3.out⟩

end Go.Proofs.YtfclfmloceddfaaGreat

/- others of seek on a nil list. -/
set_option linter.unusedVariables false
set_option linter.unusedSimpArgs false
namespace Go.Proofs.YtfclfmloceddfaaGreat
open Go.RowKit Go.Shelf Tinker

set_option maxHeartbeats 1000000 in
theorem delOtNil_any (P : Nat) (F : L → Bool) (w : World) (hC : ∀ W, Below w.heap.size w W → ∀ n, Calls Tryz.prog 110 #[lv n, .pointer (some ⟨P, 0, none⟩)] W fun e w' => e = .returned (.bool (F n)) ∧ Below W.heap.size W w') :
    Calls Tryz.prog 109 #[.slice none 0 0, .func (.func 110) #[] #[.pointer (some ⟨P, 0, none⟩)]] w fun e w' => e = .returned (.slice none 0 0) ∧ Below w.heap.size w w' := by
  have HI := Lib.hid (idxOt_any P F none 0 [] w (.inl rfl) (by decide) hC)
  rw [show idxF F [] = -1 from rfl] at HI
  clear hC
  go_enter Tryz.func109, Tryz.ntmps109
  go_wp2_with fail
  refine HI.out.mono ?_
  rintro e w1 ⟨rfl, hB⟩
  have HB := Lib.hid hB
  clear hB
  go_wp2_with fail
  go_ret
  exact ⟨rfl, HB.out⟩
set_option maxHeartbeats 1000000 in
theorem compactNil_any (w : World) : Calls Tryz.prog 113 #[.slice none 0 0] w fun e w' => e = .returned (.slice none 0 0) ∧ w = w' := by
  go_enter Tryz.func113, Tryz.ntmps113
  go_wp2_with fail
  go_ret
  exact ⟨rfl, rfl⟩
set_option maxHeartbeats 1000000 in
theorem othersNil_any (l : L) (w : World) : Calls Tryz.prog 84 #[.slice none 0 0, lv l] w fun e w' => e = .returned (.slice none 0 0) ∧ Below w.heap.size w w' := by
  obtain ⟨W0, hW0⟩ : ∃ W, W = w.alloc (.cells (lV l) 42) := ⟨_, rfl⟩
  have hb : Below w.heap.size w W0 := by rw [hW0]; exact (Below.refl _ _).alloc (Nat.le_refl _) _
  have hP : W0.heap[w.heap.size]? = some (.cells (lV l) 42 (0, 0)) := by rw [hW0]; exact hp_new rfl
  have H1 := Lib.hid (delOtNil_any w.heap.size (fun x => eqL x l || !isLn x) W0 (fun W hW n => others1_any w.heap.size l n W (hp_below hP hW (hp_lt hP))))
  have H2 := Lib.hid (fun w => AnyF.slices_SortFunc_none sortLines none 0 (.func (.func 112) #[] #[]) w)
  have H3 := Lib.hid (fun w => compactNil_any w)
  have HB := Lib.hid hb
  clear hb hP
  unfold lv
  unfold lV at hW0
  go_enter Tryz.func84, Tryz.ntmps84
  go_wp2_with fail
  rw [← hW0]
  clear hW0
  refine H1.out.mono ?_
  rintro e w1 ⟨rfl, hB⟩
  have HB1 := Lib.hid (HB.out.trans (hB.mono HB.out.size))
  clear hB
  go_wp2_with fail
  refine (H2.out _).mono ?_
  rintro e w2 ⟨rfl, rfl⟩
  go_wp2_with fail
  refine (H3.out _).mono ?_
  rintro e w3 ⟨rfl, rfl⟩
  go_wp2_with fail
  go_ret
  exact ⟨rfl, HB1.out⟩

end Go.Proofs.YtfclfmloceddfaaGreat

/- sources and sourceOf of seek: contracts. -/
set_option linter.unusedVariables false
set_option linter.unusedSimpArgs false
namespace Go.Proofs.YtfclfmloceddfaaGreat
open Go.RowKit Go.Shelf Tinker

/-- The source of a kind. -/
def srcV (n : Int) : Value := if n = 0 then .iface 76 (.agg #[]) else if n = 1 then .iface 86 (.agg #[]) else .iface 87 (.agg #[])
def srcC : Array Value := #[.iface 76 (.agg #[]), .iface 86 (.agg #[]), .iface 87 (.agg #[])]

set_option maxHeartbeats 1000000 in
theorem sources_any (w : World) : Calls Tryz.prog 24 #[] w fun e w' => e = .returned (.slice (some ⟨w.heap.size, 0, none⟩) 3 3) ∧ w'.heap[w.heap.size]? = some (.cells srcC 55 (0, 0)) ∧ Below w.heap.size w w' := by
  go_enter Tryz.func24, Tryz.ntmps24
  go_wp2_with fail
  go_ret
  exact ⟨rfl, hp_new rfl, (Below.refl _ _).alloc (Nat.le_refl _) _⟩

set_option maxHeartbeats 400000 in
theorem kind0_any (w : World) : Calls Tryz.prog 180 #[.agg #[]] w fun e w' => e = .returned (.int .i64 0) ∧ Below w.heap.size w w' := by
  go_enter Tryz.func180, Tryz.ntmps180
  go_wp2_with fail
  go_ret
  exact ⟨rfl, (Below.refl _ _).alloc (Nat.le_refl _) _⟩
set_option maxHeartbeats 400000 in
theorem kind1_any (w : World) : Calls Tryz.prog 181 #[.agg #[]] w fun e w' => e = .returned (.int .i64 1) ∧ Below w.heap.size w w' := by
  go_enter Tryz.func181, Tryz.ntmps181
  go_wp2_with fail
  go_ret
  exact ⟨rfl, (Below.refl _ _).alloc (Nat.le_refl _) _⟩
set_option maxHeartbeats 400000 in
theorem kind2_any (w : World) : Calls Tryz.prog 182 #[.agg #[]] w fun e w' => e = .returned (.int .i64 2) ∧ Below w.heap.size w w' := by
  go_enter Tryz.func182, Tryz.ntmps182
  go_wp2_with fail
  go_ret
  exact ⟨rfl, (Below.refl _ _).alloc (Nat.le_refl _) _⟩

end Go.Proofs.YtfclfmloceddfaaGreat
