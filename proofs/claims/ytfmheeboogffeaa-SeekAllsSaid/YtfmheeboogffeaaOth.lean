/- others of seek: contract. -/
import Derived.Test.YtfmheeboogffeaaCpL
import Derived.Test.YtfmheeboogffeaaSrtN
set_option linter.unusedVariables false
set_option linter.unusedSimpArgs false
namespace Go.Proofs.Ytfmheeboogffeaa
open Go.RowKit Tinker

set_option maxRecDepth 100000 in
set_option maxHeartbeats 2000000 in
theorem others_any (g base c : Nat) (zs : List L) (l : L) (w : World) (hO : w.ownsRow base 23 4 (.slice (some ⟨g, 0, none⟩) zs.length c) zs.length (lc zs)) (hm : zs.length ≤ 1000) :
    Calls Try.prog 35 #[.slice (some ⟨g, 0, none⟩) zs.length c, lv l] w fun e w' =>
      e = .returned (.slice (some ⟨g, 0, none⟩) (othL zs l).length c) ∧ w'.ownsRow base 23 4 (.slice (some ⟨g, 0, none⟩) (othL zs l).length c) (othL zs l).length (lc (othL zs l)) ∧ Off g w w' := by
  have hgl := own_lt hO
  obtain ⟨W0, hW0⟩ : ∃ W, W = w.alloc (.cells (lV l) 23) := ⟨_, rfl⟩
  have hb : Below w.heap.size w W0 := by rw [hW0]; exact (Below.refl _ _).alloc (Nat.le_refl _) _
  have hP : W0.heap[w.heap.size]? = some (.cells (lV l) 23 (0, 0)) := by rw [hW0]; exact hp_new rfl
  have hO0 := own_below hO hb (Nat.le_refl _)
  have hlt : w.heap.size < W0.heap.size := hp_lt hP
  have H1 := Lib.hid (delOt_any w.heap.size g base c (fun x => eqL x l || !isLn x) zs W0 hO0 hm (fun W hW n => others1_any w.heap.size l n W ((hW.block _ hlt (by omega)).trans hP)))
  have HF0 := Lib.hid (Off.low (g := g) hb)
  have HOT := Lib.hid (fun (sp : List L) h1 h2 => oth_of (sp := sp) (ps := zs) (l := l) h1 h2)
  have hle : (zs.filter fun m => !(eqL m l || !isLn m)).length ≤ 1000 := Nat.le_trans (List.length_filter_le _ _) hm
  clear hO hO0 hb hP hlt
  generalize othL zs l = R at HOT ⊢
  generalize (zs.filter fun m => !(eqL m l || !isLn m)) = z1 at H1 HOT hle
  unfold lv
  unfold lV at hW0
  go_enter Try.func35, Try.ntmps35
  go_wp2_with fail
  rw [← hW0]
  clear hW0
  refine H1.out.mono ?_
  rintro e w1 ⟨rfl, hO1, hF1⟩
  have H2 := Lib.hid (sortLn_any g base c z1 w1 hO1 hle)
  have HF1 := Lib.hid (HF0.out.trans hF1)
  clear hO1 hF1 H1 HF0
  go_wp2_with fail
  refine H2.out.mono ?_
  rintro e w2 ⟨rfl, sp, hp, hs, hO2, hF2⟩
  have hR := HOT.out sp hp hs
  have hl := hp.length_eq
  have H3 := Lib.hid (compactL_any g base c sp w2 (by rw [hl]; exact hO2) (by omega))
  rw [hR] at H3
  rw [hl] at H3
  have HF2 := Lib.hid (HF1.out.trans hF2)
  clear hO2 hF2 H2 HF1 hR hl hp hs HOT
  go_wp2_with fail
  refine H3.out.mono ?_
  rintro e w3 ⟨rfl, hO3, hF3⟩
  have HO3 := Lib.hid hO3
  have HF3 := Lib.hid (HF2.out.trans hF3)
  clear hO3 hF3 H3 HF2
  go_wp2_with fail
  go_ret
  exact ⟨rfl, HO3.out, HF3.out⟩

end Go.Proofs.Ytfmheeboogffeaa
