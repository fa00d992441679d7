/- BlamePasses: the walk. -/
import Derived.Test.YtgoidphamkpmdaaBlI
import Derived.Test.YtgoidphamkpmdaaBlP
set_option linter.unusedVariables false
set_option linter.unusedSimpArgs false
namespace Go.Proofs.Ytgoidphamkpmdaa
open Go.RowKit Tinker

/-- The boxes of the law: the test's, the forced lines'. -/
structure PsB (b c d : Option Addr) (n cb l cc m cd : Nat) (out want : Int) (w W : World) : Prop where
  bt : W.heap[w.heap.size]? = some (.cells #[.slice b n cb, .int .i64 out, .int .i64 want] 48 (0, 0))
  bf : W.heap[w.heap.size + 1]? = some (.cells #[.slice c l cc, .slice d m cd] 50 (0, 0))
  below : Below w.heap.size w W
theorem PsB.low {b c d : Option Addr} {n cb l cc m cd : Nat} {out want : Int} {w W W' : World} (h : PsB b c d n cb l cc m cd out want w W) (hb : Below W.heap.size W W') : PsB b c d n cb l cc m cd out want w W' :=
  ⟨hp_below h.bt hb (hp_lt h.bt), hp_below h.bf hb (hp_lt h.bf), h.below.trans (hb.mono h.below.size)⟩

set_option maxRecDepth 100000 in
set_option maxHeartbeats 4000000 in
theorem blamePasses_walk (a : Option Addr) (ca : Nat) (ps : List L) (b : Option Addr) (cb : Nat) (t : T) (c : Option Addr) (cc : Nat) (ls : List Int) (d : Option Addr) (cd : Nat) (vs : List Int) (w : World) (hp : LinesAt w a ps) (hc0 : a = none → ca = 0) (hs : IntsAt w b t.inn) (hc1 : b = none → cb = 0) (hl : IntsAt w c ls) (hc2 : c = none → cc = 0) (hv : IntsAt w d vs) (hc3 : d = none → cd = 0) :
    Calls Try.prog 11 #[.slice a ps.length ca, .agg #[.slice b t.inn.length cb, .int .i64 t.out, .int .i64 t.want], .agg #[.slice c ls.length cc, .slice d vs.length cd]] w fun e w' => e = .returned (.bool true) ∧ Below w.heap.size w w' := by
  clear hc0 hc1 hc2 hc3
  have HK := Lib.hid (fun w => known3_true w)
  have HL := Lib.hid (fun w => long_any a ps.length ca w)
  have HG1 := Lib.hid (fun w => large3_any b t.inn.length cb w)
  have HG2 := Lib.hid (fun w => large3_any c ls.length cc w)
  have HG3 := Lib.hid (fun w => large3_any d vs.length cd w)
  have hI : PsB b c d t.inn.length cb ls.length cc vs.length cd t.out t.want w ((w.alloc (.cells #[.slice b t.inn.length cb, .int .i64 t.out, .int .i64 t.want] 48)).alloc (.cells #[.slice c ls.length cc, .slice d vs.length cd] 50)) := ⟨hp_alloc (hp_new rfl), hp_new (by simp), ((Below.refl _ _).alloc (Nat.le_refl _) _).alloc (by simp) _⟩
  have x0 := hp_cell hI.bt (j := 0) (by rfl)
  have y0 := hp_cell hI.bf (j := 0) (by rfl)
  have y1 := hp_cell hI.bf (j := 1) (by rfl)
  have HI := Lib.hid hI
  by_cases g1 : 100 < ps.length
  · rw [show decide ((100 : Int) < (ps.length : Int)) = true by simp; omega] at HL
    clear hp hs hl hv hI g1
    go_enter Try.func11, Try.ntmps11
    go_wp2_with fail
    refine (HL.out _).mono ?_
    rintro e w1 ⟨rfl, rfl⟩
    go_wp2_with fail
    refine (HK.out _).mono ?_
    rintro e w2 ⟨rfl, hB⟩
    go_wp2_with fail
    go_ret
    exact ⟨rfl, (HI.out.low hB).below⟩
  rw [show decide ((100 : Int) < (ps.length : Int)) = false by simp; omega] at HL
  by_cases g2 : 100 < t.inn.length
  · rw [show decide ((100 : Int) < (t.inn.length : Int)) = true by simp; omega] at HG1
    clear hp hs hl hv hI g1 g2
    go_enter Try.func11, Try.ntmps11
    go_wp2_with fail
    refine (HL.out _).mono ?_
    rintro e w1 ⟨rfl, rfl⟩
    go_wp2_with fail
    refine (HG1.out _).mono ?_
    rintro e w1 ⟨rfl, rfl⟩
    go_wp2_with fail
    refine (HK.out _).mono ?_
    rintro e w2 ⟨rfl, hB⟩
    go_wp2_with fail
    go_ret
    exact ⟨rfl, (HI.out.low hB).below⟩
  rw [show decide ((100 : Int) < (t.inn.length : Int)) = false by simp; omega] at HG1
  by_cases g3 : 100 < ls.length
  · rw [show decide ((100 : Int) < (ls.length : Int)) = true by simp; omega] at HG2
    clear hp hs hl hv hI g1 g2 g3
    go_enter Try.func11, Try.ntmps11
    go_wp2_with fail
    refine (HL.out _).mono ?_
    rintro e w1 ⟨rfl, rfl⟩
    go_wp2_with fail
    refine (HG1.out _).mono ?_
    rintro e w1 ⟨rfl, rfl⟩
    go_wp2_with fail
    refine (HG2.out _).mono ?_
    rintro e w1 ⟨rfl, rfl⟩
    go_wp2_with fail
    refine (HK.out _).mono ?_
    rintro e w2 ⟨rfl, hB⟩
    go_wp2_with fail
    go_ret
    exact ⟨rfl, (HI.out.low hB).below⟩
  rw [show decide ((100 : Int) < (ls.length : Int)) = false by simp; omega] at HG2
  by_cases g4 : 100 < vs.length
  · rw [show decide ((100 : Int) < (vs.length : Int)) = true by simp; omega] at HG3
    clear hp hs hl hv hI g1 g2 g3 g4
    go_enter Try.func11, Try.ntmps11
    go_wp2_with fail
    refine (HL.out _).mono ?_
    rintro e w1 ⟨rfl, rfl⟩
    go_wp2_with fail
    refine (HG1.out _).mono ?_
    rintro e w1 ⟨rfl, rfl⟩
    go_wp2_with fail
    refine (HG2.out _).mono ?_
    rintro e w1 ⟨rfl, rfl⟩
    go_wp2_with fail
    refine (HG3.out _).mono ?_
    rintro e w1 ⟨rfl, rfl⟩
    go_wp2_with fail
    refine (HK.out _).mono ?_
    rintro e w2 ⟨rfl, hB⟩
    go_wp2_with fail
    go_ret
    exact ⟨rfl, (HI.out.low hB).below⟩
  rw [show decide ((100 : Int) < (vs.length : Int)) = false by simp; omega] at HG3
  have C1 := Lib.hid (fun w hp hs hl hv => CheckPass_any a b c d ca cb cc cd ps t ls vs w hp hs hl hv (by omega) (by omega) (by omega))
  have C2 := Lib.hid (fun w hp hs hl hv => rCheckPass_any a b c d ca cb cc cd ps t ls vs w hp hs hl hv (by omega) (by omega) (by omega))
  have HP := Lib.hid hp
  have HS := Lib.hid hs
  have HLS := Lib.hid hl
  have HVS := Lib.hid hv
  generalize cpC ps t ls vs = co at C1 C2
  obtain ⟨inn, out, want⟩ := t
  simp only at *
  clear hp hs hl hv g1 g2 g3 g4
  have x1 := hp_cell hI.bt (j := 1) (by rfl)
  have x2 := hp_cell hI.bt (j := 2) (by rfl)
  clear HI
  go_enter Try.func11, Try.ntmps11
  go_wp2_with fail
  refine (HL.out _).mono ?_
  rintro e w1 ⟨rfl, rfl⟩
  go_wp2_with fail
  refine (HG1.out _).mono ?_
  rintro e w1 ⟨rfl, rfl⟩
  go_wp2_with fail
  refine (HG2.out _).mono ?_
  rintro e w1 ⟨rfl, rfl⟩
  go_wp2_with fail
  refine (HG3.out _).mono ?_
  rintro e w1 ⟨rfl, rfl⟩
  generalize ((w.alloc (.cells #[.slice b inn.length cb, .int .i64 out, .int .i64 want] 48)).alloc (.cells #[.slice c ls.length cc, .slice d vs.length cd] 50)) = W0 at hI x0 x1 x2 y0 y1 ⊢
  go_wp2_with fail
  replace hI := hI.low (Below.refl W0.heap.size W0).drew
  clear x0 x1 x2 y0 y1
  have x0 := hp_cell hI.bt (j := 0) (by rfl)
  have x1 := hp_cell hI.bt (j := 1) (by rfl)
  have x2 := hp_cell hI.bt (j := 2) (by rfl)
  have y0 := hp_cell hI.bf (j := 0) (by rfl)
  have y1 := hp_cell hI.bf (j := 1) (by rfl)
  go_region_held3 (fun w' => w'.cell? ⟨w.heap.size, 0, none⟩ = some (.slice b inn.length cb) ∧ w'.cell? ⟨w.heap.size, 1, none⟩ = some (.int .i64 out) ∧ w'.cell? ⟨w.heap.size, 2, none⟩ = some (.int .i64 want) ∧ w'.cell? ⟨w.heap.size + 1, 0, none⟩ = some (.slice c ls.length cc) ∧ w'.cell? ⟨w.heap.size + 1, 1, none⟩ = some (.slice d vs.length cd)) (first | exact ⟨x0, x1, x2, y0, y1⟩ | go_keep) (first | (go_at_call 43; refine (C1.out _ ?_ ?_ ?_ ?_).mono ?_; exact HP.out.below hI.below (Nat.le_refl _); exact HS.out.below hI.below (Nat.le_refl _); exact HLS.out.below hI.below (Nat.le_refl _); exact HVS.out.below hI.below (Nat.le_refl _); rintro e wa ⟨rfl, hBa⟩; replace hI := hI.low hBa; clear hBa x0 x1 x2 y0 y1; have x0 := hp_cell hI.bt (j := 0) (by rfl); have x1 := hp_cell hI.bt (j := 1) (by rfl); have x2 := hp_cell hI.bt (j := 2) (by rfl); have y0 := hp_cell hI.bf (j := 0) (by rfl); have y1 := hp_cell hI.bf (j := 1) (by rfl)) | (go_at_call 44; refine (C2.out _ ?_ ?_ ?_ ?_).mono ?_; exact HP.out.below hI.below (Nat.le_refl _); exact HS.out.below hI.below (Nat.le_refl _); exact HLS.out.below hI.below (Nat.le_refl _); exact HVS.out.below hI.below (Nat.le_refl _); rintro e wa ⟨rfl, hBa⟩; replace hI := hI.low hBa; clear hBa x0 x1 x2 y0 y1; have x0 := hp_cell hI.bt (j := 0) (by rfl); have x1 := hp_cell hI.bt (j := 1) (by rfl); have x2 := hp_cell hI.bt (j := 2) (by rfl); have y0 := hp_cell hI.bf (j := 0) (by rfl); have y1 := hp_cell hI.bf (j := 1) (by rfl)) | (go_at_call 16; refine (HK.out _).mono ?_; rintro e wa ⟨rfl, hBa⟩; replace hI := hI.low hBa; clear hBa x0 x1 x2 y0 y1; have x0 := hp_cell hI.bt (j := 0) (by rfl); have x1 := hp_cell hI.bt (j := 1) (by rfl); have x2 := hp_cell hI.bt (j := 2) (by rfl); have y0 := hp_cell hI.bf (j := 0) (by rfl); have y1 := hp_cell hI.bf (j := 1) (by rfl)))
  all_goals go_wp2_with fail
  all_goals go_ret
  all_goals exact ⟨rfl, hI.below⟩

end Go.Proofs.Ytgoidphamkpmdaa
