/- has, isWithin of boxes: contracts. -/
import Derived.Test.YtmpgaccpdglhkaaSpB
set_option linter.unusedVariables false
set_option linter.unusedSimpArgs false
namespace Go.Proofs.Ytmpgaccpdglhkaa
open Go.RowKit Tinker

set_option maxRecDepth 100000 in
set_option maxHeartbeats 4000000 in
theorem boxHas_any (a : Option Addr) (ca : Nat) (b : List Rg) (s : List Int) (w : World) (h4 : b.length = 4) (hs : IntsAt w a s) (k4 : s.length = 4) :
    Calls Try.prog 77 #[bx b, .slice a 4 ca] w fun e w' => e = .returned (.bool (memB b s)) ∧ Below w.heap.size w w' := by
  obtain ⟨x0, x1, x2, x3, rfl⟩ := rg_list4 h4
  obtain ⟨n0, n1, n2, n3, rfl⟩ := int_list4 k4
  obtain ⟨g, off, rfl, hlb, hc⟩ := hs.resolve_left (by simp)
  have q0 := hc 0 n0 rfl
  have q1 := hc 1 n1 rfl
  have q2 := hc 2 n2 rfl
  have q3 := hc 3 n3 rfl
  simp only [Nat.add_zero] at q0
  rw [bx_4]
  clear h4 hs k4 hc
  go_enter Try.func77, Try.ntmps77
  go_wp2_with fail
  go_loopw [8] (fun s8 wr => ∃ k : Nat, k ≤ 4 ∧ s8 = .int .i64 k ∧ memTo [x0, x1, x2, x3] [n0, n1, n2, n3] k = true ∧ Below w.heap.size w wr) (fun s8 _ => 4 - (intOf s8).toNat)
  case atStart => exact ⟨0, Nat.zero_le _, rfl, rfl, ((Below.refl _ _).alloc (by first | exact Nat.le_refl _ | (simp only [World.size_alloc]; omega)) _)⟩
  case round =>
    obtain ⟨k, hk, rfl, hinv, hB⟩ := hrel
    have HB := Lib.hid hB
    have HS := hB.size
    have HI := Lib.hid hinv
    clear hinv
    rcases (show k = 0 ∨ k = 1 ∨ k = 2 ∨ k = 3 ∨ k = 4 by omega) with rfl | rfl | rfl | rfl | rfl
    · rw [show ((0 : Nat) : Int) = 0 from rfl]
      have ix := fun w => ixB0 x0.lo x0.hi x1.lo x1.hi x2.lo x2.hi x3.lo x3.hi w
      have p0 := (hB.cell (p := ⟨g, _, none⟩) hlb).trans q0
      have pa := fun o => cell_alloc_keep (o := o) p0
      cases hv : inG x0 n0
      · have HV := Lib.hid hv
        clear hv
        go_wp2_with fail
        clear ix
        go_region_with (go_at_call 111; refine (ivHas_any x0 n0 _).mono ?_; rintro e wa ⟨rfl, hBa⟩; have HBA := Lib.hid (HB.out.alloc HB.out.size _ |>.drew.trans (hBa.mono (by have := HB.out.size; first | omega | (simp; omega)))); clear hBa; rw [HV.out])
        all_goals go_wp2_with fail
        all_goals go_ret
        all_goals exact ⟨ret_bool (memTo_not (b := [x0, x1, x2, x3]) (s := [n0, n1, n2, n3]) (k := 0) (by omega) HV.out).symm, HBA.out⟩
      · have HV := Lib.hid hv
        clear hv
        go_wp2_with fail
        clear ix
        go_region_with (go_at_call 111; refine (ivHas_any x0 n0 _).mono ?_; rintro e wa ⟨rfl, hBa⟩; have HBA := Lib.hid (HB.out.alloc HB.out.size _ |>.drew.trans (hBa.mono (by have := HB.out.size; first | omega | (simp; omega)))); clear hBa; rw [HV.out])
        all_goals go_wp2_with fail
        all_goals go_roundw
        all_goals first | (simp [intOf]; done) | exact ⟨1, by omega, rfl, by rw [memTo_succ, HI.out]; exact HV.out, HBA.out⟩
    · rw [show ((1 : Nat) : Int) = 1 from rfl]
      have ix := fun w => ixB1 x0.lo x0.hi x1.lo x1.hi x2.lo x2.hi x3.lo x3.hi w
      have p1 := (hB.cell (p := ⟨g, _, none⟩) hlb).trans q1
      have pa := fun o => cell_alloc_keep (o := o) p1
      cases hv : inG x1 n1
      · have HV := Lib.hid hv
        clear hv
        go_wp2_with fail
        clear ix
        go_region_with (go_at_call 111; refine (ivHas_any x1 n1 _).mono ?_; rintro e wa ⟨rfl, hBa⟩; have HBA := Lib.hid (HB.out.alloc HB.out.size _ |>.drew.trans (hBa.mono (by have := HB.out.size; first | omega | (simp; omega)))); clear hBa; rw [HV.out])
        all_goals go_wp2_with fail
        all_goals go_ret
        all_goals exact ⟨ret_bool (memTo_not (b := [x0, x1, x2, x3]) (s := [n0, n1, n2, n3]) (k := 1) (by omega) HV.out).symm, HBA.out⟩
      · have HV := Lib.hid hv
        clear hv
        go_wp2_with fail
        clear ix
        go_region_with (go_at_call 111; refine (ivHas_any x1 n1 _).mono ?_; rintro e wa ⟨rfl, hBa⟩; have HBA := Lib.hid (HB.out.alloc HB.out.size _ |>.drew.trans (hBa.mono (by have := HB.out.size; first | omega | (simp; omega)))); clear hBa; rw [HV.out])
        all_goals go_wp2_with fail
        all_goals go_roundw
        all_goals first | (simp [intOf]; done) | exact ⟨2, by omega, rfl, by rw [memTo_succ, HI.out]; exact HV.out, HBA.out⟩
    · rw [show ((2 : Nat) : Int) = 2 from rfl]
      have ix := fun w => ixB2 x0.lo x0.hi x1.lo x1.hi x2.lo x2.hi x3.lo x3.hi w
      have p2 := (hB.cell (p := ⟨g, _, none⟩) hlb).trans q2
      have pa := fun o => cell_alloc_keep (o := o) p2
      cases hv : inG x2 n2
      · have HV := Lib.hid hv
        clear hv
        go_wp2_with fail
        clear ix
        go_region_with (go_at_call 111; refine (ivHas_any x2 n2 _).mono ?_; rintro e wa ⟨rfl, hBa⟩; have HBA := Lib.hid (HB.out.alloc HB.out.size _ |>.drew.trans (hBa.mono (by have := HB.out.size; first | omega | (simp; omega)))); clear hBa; rw [HV.out])
        all_goals go_wp2_with fail
        all_goals go_ret
        all_goals exact ⟨ret_bool (memTo_not (b := [x0, x1, x2, x3]) (s := [n0, n1, n2, n3]) (k := 2) (by omega) HV.out).symm, HBA.out⟩
      · have HV := Lib.hid hv
        clear hv
        go_wp2_with fail
        clear ix
        go_region_with (go_at_call 111; refine (ivHas_any x2 n2 _).mono ?_; rintro e wa ⟨rfl, hBa⟩; have HBA := Lib.hid (HB.out.alloc HB.out.size _ |>.drew.trans (hBa.mono (by have := HB.out.size; first | omega | (simp; omega)))); clear hBa; rw [HV.out])
        all_goals go_wp2_with fail
        all_goals go_roundw
        all_goals first | (simp [intOf]; done) | exact ⟨3, by omega, rfl, by rw [memTo_succ, HI.out]; exact HV.out, HBA.out⟩
    · rw [show ((3 : Nat) : Int) = 3 from rfl]
      have ix := fun w => ixB3 x0.lo x0.hi x1.lo x1.hi x2.lo x2.hi x3.lo x3.hi w
      have p3 := (hB.cell (p := ⟨g, _, none⟩) hlb).trans q3
      have pa := fun o => cell_alloc_keep (o := o) p3
      cases hv : inG x3 n3
      · have HV := Lib.hid hv
        clear hv
        go_wp2_with fail
        clear ix
        go_region_with (go_at_call 111; refine (ivHas_any x3 n3 _).mono ?_; rintro e wa ⟨rfl, hBa⟩; have HBA := Lib.hid (HB.out.alloc HB.out.size _ |>.drew.trans (hBa.mono (by have := HB.out.size; first | omega | (simp; omega)))); clear hBa; rw [HV.out])
        all_goals go_wp2_with fail
        all_goals go_ret
        all_goals exact ⟨ret_bool (memTo_not (b := [x0, x1, x2, x3]) (s := [n0, n1, n2, n3]) (k := 3) (by omega) HV.out).symm, HBA.out⟩
      · have HV := Lib.hid hv
        clear hv
        go_wp2_with fail
        clear ix
        go_region_with (go_at_call 111; refine (ivHas_any x3 n3 _).mono ?_; rintro e wa ⟨rfl, hBa⟩; have HBA := Lib.hid (HB.out.alloc HB.out.size _ |>.drew.trans (hBa.mono (by have := HB.out.size; first | omega | (simp; omega)))); clear hBa; rw [HV.out])
        all_goals go_wp2_with fail
        all_goals go_roundw
        all_goals first | (simp [intOf]; done) | exact ⟨4, by omega, rfl, by rw [memTo_succ, HI.out]; exact HV.out, HBA.out⟩
    · rw [show ((4 : Nat) : Int) = 4 from rfl]
      go_wp2_with fail
      go_ret
      exact ⟨ret_bool HI.out.symm, HB.out⟩

set_option maxRecDepth 100000 in
set_option maxHeartbeats 4000000 in
theorem boxWithin_any (a b : List Rg) (w : World) (h4 : a.length = 4) (k4 : b.length = 4) :
    Calls Try.prog 78 #[bx a, bx b] w fun e w' => e = .returned (.bool (subB a b)) ∧ Below w.heap.size w w' := by
  obtain ⟨x0, x1, x2, x3, rfl⟩ := rg_list4 h4
  obtain ⟨y0, y1, y2, y3, rfl⟩ := rg_list4 k4
  rw [bx_4, bx_4]
  clear h4 k4
  go_enter Try.func78, Try.ntmps78
  go_wp2_with fail
  go_loopw [8] (fun s8 wr => ∃ k : Nat, k ≤ 4 ∧ s8 = .int .i64 k ∧ subTo [x0, x1, x2, x3] [y0, y1, y2, y3] k = true ∧ wr.heap[w.heap.size + 1]? = some (.cells #[.int .i64 y0.lo, .int .i64 y0.hi, .int .i64 y1.lo, .int .i64 y1.hi, .int .i64 y2.lo, .int .i64 y2.hi, .int .i64 y3.lo, .int .i64 y3.hi] 69 (0, 0)) ∧ Below w.heap.size w wr) (fun s8 _ => 4 - (intOf s8).toNat)
  case atStart => exact ⟨0, Nat.zero_le _, rfl, rfl, hp_new (by simp), (((Below.refl _ _).alloc (by first | exact Nat.le_refl _ | (simp only [World.size_alloc]; omega)) _).alloc (by first | exact Nat.le_refl _ | (simp only [World.size_alloc]; omega)) _)⟩
  case round =>
    obtain ⟨k, hk, rfl, hinv, hy, hB⟩ := hrel
    have HB := Lib.hid hB
    have HS := hB.size
    have HY := Lib.hid hy
    have HI := Lib.hid hinv
    have hlw := hp_lt hy
    clear hinv hy
    rcases (show k = 0 ∨ k = 1 ∨ k = 2 ∨ k = 3 ∨ k = 4 by omega) with rfl | rfl | rfl | rfl | rfl
    · rw [show ((0 : Nat) : Int) = 0 from rfl]
      have ix := fun w => ixB0 x0.lo x0.hi x1.lo x1.hi x2.lo x2.hi x3.lo x3.hi w
      have z0 := hp_cell HY.out (j := 0) (by rfl)
      have z1 := hp_cell HY.out (j := 1) (by rfl)
      cases hv : subG x0 y0
      · have HV := Lib.hid hv
        clear hv
        go_wp2_with fail
        clear ix
        go_region_with (go_at_call 93; refine (ivWithin_any x0 y0 _).mono ?_; rintro e wa ⟨rfl, hBa⟩; have HBA := Lib.hid (HB.out.alloc HB.out.size _ |>.drew.trans (hBa.mono (by have := HB.out.size; first | omega | (simp; omega)))); have HYA := Lib.hid (hp_below (hp_drew (hp_alloc HY.out)) hBa (by first | omega | (simp; omega))); clear hBa; rw [HV.out])
        all_goals go_wp2_with fail
        all_goals go_ret
        all_goals exact ⟨ret_bool (subTo_not (a := [x0, x1, x2, x3]) (b := [y0, y1, y2, y3]) (k := 0) (by omega) HV.out).symm, HBA.out⟩
      · have HV := Lib.hid hv
        clear hv
        go_wp2_with fail
        clear ix
        go_region_with (go_at_call 93; refine (ivWithin_any x0 y0 _).mono ?_; rintro e wa ⟨rfl, hBa⟩; have HBA := Lib.hid (HB.out.alloc HB.out.size _ |>.drew.trans (hBa.mono (by have := HB.out.size; first | omega | (simp; omega)))); have HYA := Lib.hid (hp_below (hp_drew (hp_alloc HY.out)) hBa (by first | omega | (simp; omega))); clear hBa; rw [HV.out])
        all_goals go_wp2_with fail
        all_goals go_roundw
        all_goals first | (simp [intOf]; done) | exact ⟨1, by omega, rfl, by rw [subTo_succ, HI.out]; exact HV.out, HYA.out, HBA.out⟩
    · rw [show ((1 : Nat) : Int) = 1 from rfl]
      have ix := fun w => ixB1 x0.lo x0.hi x1.lo x1.hi x2.lo x2.hi x3.lo x3.hi w
      have z0 := hp_cell HY.out (j := 2) (by rfl)
      have z1 := hp_cell HY.out (j := 3) (by rfl)
      cases hv : subG x1 y1
      · have HV := Lib.hid hv
        clear hv
        go_wp2_with fail
        clear ix
        go_region_with (go_at_call 93; refine (ivWithin_any x1 y1 _).mono ?_; rintro e wa ⟨rfl, hBa⟩; have HBA := Lib.hid (HB.out.alloc HB.out.size _ |>.drew.trans (hBa.mono (by have := HB.out.size; first | omega | (simp; omega)))); have HYA := Lib.hid (hp_below (hp_drew (hp_alloc HY.out)) hBa (by first | omega | (simp; omega))); clear hBa; rw [HV.out])
        all_goals go_wp2_with fail
        all_goals go_ret
        all_goals exact ⟨ret_bool (subTo_not (a := [x0, x1, x2, x3]) (b := [y0, y1, y2, y3]) (k := 1) (by omega) HV.out).symm, HBA.out⟩
      · have HV := Lib.hid hv
        clear hv
        go_wp2_with fail
        clear ix
        go_region_with (go_at_call 93; refine (ivWithin_any x1 y1 _).mono ?_; rintro e wa ⟨rfl, hBa⟩; have HBA := Lib.hid (HB.out.alloc HB.out.size _ |>.drew.trans (hBa.mono (by have := HB.out.size; first | omega | (simp; omega)))); have HYA := Lib.hid (hp_below (hp_drew (hp_alloc HY.out)) hBa (by first | omega | (simp; omega))); clear hBa; rw [HV.out])
        all_goals go_wp2_with fail
        all_goals go_roundw
        all_goals first | (simp [intOf]; done) | exact ⟨2, by omega, rfl, by rw [subTo_succ, HI.out]; exact HV.out, HYA.out, HBA.out⟩
    · rw [show ((2 : Nat) : Int) = 2 from rfl]
      have ix := fun w => ixB2 x0.lo x0.hi x1.lo x1.hi x2.lo x2.hi x3.lo x3.hi w
      have z0 := hp_cell HY.out (j := 4) (by rfl)
      have z1 := hp_cell HY.out (j := 5) (by rfl)
      cases hv : subG x2 y2
      · have HV := Lib.hid hv
        clear hv
        go_wp2_with fail
        clear ix
        go_region_with (go_at_call 93; refine (ivWithin_any x2 y2 _).mono ?_; rintro e wa ⟨rfl, hBa⟩; have HBA := Lib.hid (HB.out.alloc HB.out.size _ |>.drew.trans (hBa.mono (by have := HB.out.size; first | omega | (simp; omega)))); have HYA := Lib.hid (hp_below (hp_drew (hp_alloc HY.out)) hBa (by first | omega | (simp; omega))); clear hBa; rw [HV.out])
        all_goals go_wp2_with fail
        all_goals go_ret
        all_goals exact ⟨ret_bool (subTo_not (a := [x0, x1, x2, x3]) (b := [y0, y1, y2, y3]) (k := 2) (by omega) HV.out).symm, HBA.out⟩
      · have HV := Lib.hid hv
        clear hv
        go_wp2_with fail
        clear ix
        go_region_with (go_at_call 93; refine (ivWithin_any x2 y2 _).mono ?_; rintro e wa ⟨rfl, hBa⟩; have HBA := Lib.hid (HB.out.alloc HB.out.size _ |>.drew.trans (hBa.mono (by have := HB.out.size; first | omega | (simp; omega)))); have HYA := Lib.hid (hp_below (hp_drew (hp_alloc HY.out)) hBa (by first | omega | (simp; omega))); clear hBa; rw [HV.out])
        all_goals go_wp2_with fail
        all_goals go_roundw
        all_goals first | (simp [intOf]; done) | exact ⟨3, by omega, rfl, by rw [subTo_succ, HI.out]; exact HV.out, HYA.out, HBA.out⟩
    · rw [show ((3 : Nat) : Int) = 3 from rfl]
      have ix := fun w => ixB3 x0.lo x0.hi x1.lo x1.hi x2.lo x2.hi x3.lo x3.hi w
      have z0 := hp_cell HY.out (j := 6) (by rfl)
      have z1 := hp_cell HY.out (j := 7) (by rfl)
      cases hv : subG x3 y3
      · have HV := Lib.hid hv
        clear hv
        go_wp2_with fail
        clear ix
        go_region_with (go_at_call 93; refine (ivWithin_any x3 y3 _).mono ?_; rintro e wa ⟨rfl, hBa⟩; have HBA := Lib.hid (HB.out.alloc HB.out.size _ |>.drew.trans (hBa.mono (by have := HB.out.size; first | omega | (simp; omega)))); have HYA := Lib.hid (hp_below (hp_drew (hp_alloc HY.out)) hBa (by first | omega | (simp; omega))); clear hBa; rw [HV.out])
        all_goals go_wp2_with fail
        all_goals go_ret
        all_goals exact ⟨ret_bool (subTo_not (a := [x0, x1, x2, x3]) (b := [y0, y1, y2, y3]) (k := 3) (by omega) HV.out).symm, HBA.out⟩
      · have HV := Lib.hid hv
        clear hv
        go_wp2_with fail
        clear ix
        go_region_with (go_at_call 93; refine (ivWithin_any x3 y3 _).mono ?_; rintro e wa ⟨rfl, hBa⟩; have HBA := Lib.hid (HB.out.alloc HB.out.size _ |>.drew.trans (hBa.mono (by have := HB.out.size; first | omega | (simp; omega)))); have HYA := Lib.hid (hp_below (hp_drew (hp_alloc HY.out)) hBa (by first | omega | (simp; omega))); clear hBa; rw [HV.out])
        all_goals go_wp2_with fail
        all_goals go_roundw
        all_goals first | (simp [intOf]; done) | exact ⟨4, by omega, rfl, by rw [subTo_succ, HI.out]; exact HV.out, HYA.out, HBA.out⟩
    · rw [show ((4 : Nat) : Int) = 4 from rfl]
      go_wp2_with fail
      go_ret
      exact ⟨ret_bool HI.out.symm, HB.out⟩

end Go.Proofs.Ytmpgaccpdglhkaa
