/- canPass of the document's side: contract. -/
import Derived.Test.YtgoidphamkpmdaaGreatPks
import Derived.Test.YtgoidphamkpmdaaGreatRln
import Derived.Test.YtgoidphamkpmdaaGreatCan
import Derived.BigQuiet
set_option linter.unusedVariables false
set_option linter.unusedSimpArgs false
namespace Go.Proofs.YtgoidphamkpmdaaGreat
open Go.RowKit Tinker

theorem find_next {P : List Int → Bool} {fs : List (List Int)} {k : Nat} {vs : List Int} (h : (fs.take k).find? P = none) (hv : fs[k]? = some vs) (hp : P vs = false) : (fs.take (k + 1)).find? P = none := by
  rw [List.take_add_one, hv, List.find?_append, h]; simp [hp]
theorem find_here {P : List Int → Bool} {fs : List (List Int)} {k : Nat} {vs : List Int} (h : (fs.take k).find? P = none) (hv : fs[k]? = some vs) (hp : P vs = true) : fs.find? P = some vs := by
  have hlt := (List.getElem?_eq_some_iff.1 hv).1
  have e : fs = fs.take k ++ (vs :: fs.drop (k + 1)) := by
    have h2 : fs.drop k = vs :: fs.drop (k + 1) := by rw [List.drop_eq_getElem_cons hlt]; congr 1; exact (List.getElem?_eq_some_iff.1 hv).2
    rw [← h2, List.take_append_drop]
  rw [e, List.find?_append, h]
  simp [hp]

set_option maxRecDepth 100000 in
set_option maxHeartbeats 4000000 in
theorem rcanPass_any (a b c g : Option Addr) (ca cb cc cg : Nat) (ps : List L) (t : T) (ls : List Int) (fs : List (List Int)) (w : World) (hp : LinesAt w a ps) (hs : IntsAt w b t.inn) (hl : IntsAt w c ls) (hf : RowsAt w g fs) (hT : isT t = true) (hC : ∀ vs ∈ fs, fC ps t.inn ls vs = 0) (hm : ls.length ≤ 1000) (hfl : fs.length ≤ 700) (hm2 : ∀ vs ∈ fs, vs.length ≤ 1000) :
    Calls Tryz.prog 96 #[.slice a ps.length ca, .agg #[.slice b t.inn.length cb, .int .i64 t.out, .int .i64 t.want], .slice c ls.length cc, .slice g fs.length cg] w (GivesO (fs.find? (pasF ps t ls)) w) := by
  have HI := Lib.hid (boxT_new (a := b) (n := t.inn.length) (ca := cb) (out := t.out) (want := t.want) w)
  have hr := btw_true.1 (show btw t.out 0 3 = true from (isT_ok hT).2.1)
  have HFC := Lib.hid (fun d cd vs (hv : vs ∈ fs) w hp hs hl hv => rForce_any a b c d ca cb cc cd ps t.inn ls vs w hp hs hl hv hm (by have := hm2 vs ‹_›; omega))
  have HCC := Lib.hid hC
  have HAL := Lib.hid (fun vs h => (fA_ok (p := ps) (s := t.inn) (ls := ls) (vs := vs) h).1)
  have HPF := Lib.hid (fun vs => show pasF ps t ls vs = ((fC ps t.inn ls vs == 0) && ((fA ps t.inn ls vs).getD t.out.toNat 0 == t.want)) from rfl)
  have HP := Lib.hid hp
  have HS := Lib.hid hs
  have HL := Lib.hid hl
  have HF := Lib.hid hf
  obtain ⟨inn, out, want⟩ := t
  simp only at *
  obtain ⟨o, rfl⟩ : ∃ o : Nat, out = o := ⟨out.toNat, by omega⟩
  have HN := Lib.hid (show ((o : Int)).toNat = o by omega)
  generalize hP : pasF ps ⟨inn, o, want⟩ ls = P at HPF ⊢
  clear hp hs hl hf hT hC hm2 hP
  go_enter Tryz.func96, Tryz.ntmps96
  go_wp2_with fail
  go_loopw [10] (fun s10 wr => ∃ k : Nat, k ≤ fs.length ∧ s10 = .int .i64 k ∧ (fs.take k).find? P = none ∧ BoxT w.heap.size b inn.length cb o want w wr) (fun s10 _ => fs.length - (intOf s10).toNat)
  case atStart => exact ⟨0, Nat.zero_le _, rfl, rfl, HI.out⟩
  case round =>
    clear HI
    obtain ⟨k, hk, rfl, hno, hI⟩ := hrel
    have HNO := Lib.hid hno
    have HI := Lib.hid hI
    clear hno
    by_cases hlt : k < fs.length
    · obtain ⟨gb, go, vs, a', c', rfl, hgb, hvs, y0, hvi⟩ := (HF.out.below hI.below (Nat.le_refl _)).at_ hlt
      have HVG := Lib.hid hvs
      have hmem := mem_of_get hvs
      have H1 := Lib.hid (HFC.out a' c' vs hmem)
      have hc0 := HCC.out vs hmem
      have hXl := HAL.out vs hc0
      have HQ := Lib.hid (HPF.out vs)
      rw [hc0] at H1 HQ
      generalize fA ps inn ls vs = X at H1 hXl HQ
      have ho3 : o < X.length := by omega
      clear hXl
      have hlx := hp_lt hI.bl
      have x0 := hI.c0
      have HVI := Lib.hid hvi
      clear hI hvs hmem hc0 hvi HFC HCC HAL HPF
      go_upto_region 4 with fail
      go_cut [11] (fun s11 wc => ∃ a1 c1, s11 = .slice a1 X.length c1 ∧ IntsAt wc a1 X ∧ BoxT w.heap.size b inn.length cb o want w wc)
      case first =>
        go_region_held3 (fun w' => w'.cell? ⟨w.heap.size, 0, none⟩ = some (.slice b inn.length cb) ∧ w'.cell? ⟨gb, go + k, none⟩ = some (.slice a' vs.length c')) (first | exact ⟨x0, y0⟩ | exact ⟨(hBa.cell (p := ⟨w.heap.size, _, none⟩) hlx).trans x0, (hBa.cell (p := ⟨gb, _, none⟩) hgb).trans y0⟩ | go_keep) ((go_at_call 136; refine (H1.out _ ?_ ?_ ?_ ?_).mono ?_; exact (HP.out.below HI.out.drew.below (Nat.le_refl _)); exact (HS.out.below HI.out.drew.below (Nat.le_refl _)); exact (HL.out.below HI.out.drew.below (Nat.le_refl _)); exact (HVI.out.below (Below.refl _ _).drew (Nat.le_refl _)); rintro e wa ⟨a1, c1, rfl, h1, hBa⟩))
        all_goals go_wp2_with fail
        all_goals go_meet
        all_goals exact ⟨_, _, rfl, h1, HI.out.drew.low hBa⟩
      case rest =>
        obtain ⟨a1, c1, rfl, h1, hI⟩ := hcut
        have HI := Lib.hid hI
        obtain ⟨xb, xo, xv, rfl, hxb, hxv, z0⟩ := h1.at_ ho3
        have x1 := hI.c1
        have x2 := hI.c2
        have HQ2 := Lib.hid (show P vs = (xv == want) by rw [HQ.out, HN.out, getD_of_get hxv]; rfl)
        have y1 := (HF.out.below hI.below (Nat.le_refl _)).at_ hlt
        obtain ⟨gb', go', vs', a'', c'', e1, hgb', hvs', y1, hvi'⟩ := y1
        injection e1 with e1
        injection e1 with e2 e3
        subst e2 e3
        have e4 : vs = vs' := by rw [HVG.out] at hvs'; injection hvs'
        subst e4
        have HVI2 := Lib.hid hvi'
        clear hI h1 hxv x0 y0 hvs' hvi' HVI H1 HQ
        cases hq : (xv == want)
        · have HQ3 := Lib.hid (HQ2.out.trans hq)
          go_wp2_with fail
          go_quiet (fail)
          go_wp2_with fail
          go_roundw
          case rel => exact ⟨k + 1, by omega, by go_num, find_next HNO.out HVG.out HQ3.out, HI.out.low ⟨rfl, rfl, rfl, Nat.le_refl _, fun _ _ => rfl⟩⟩
          case measure => simp [intOf]; omega
        · have HQ3 := Lib.hid (find_here HNO.out HVG.out (HQ2.out.trans hq))
          go_wp2_with fail
          go_quiet (fail)
          go_wp2_with fail
          go_ret2
          rw [HQ3.out]
          exact ⟨_, _, rfl, HVI2.out, HI.out.below.trans (Below.mono ⟨rfl, rfl, rfl, Nat.le_refl _, fun _ _ => rfl⟩ HI.out.below.size)⟩
    · obtain rfl : k = fs.length := by omega
      have HNN := Lib.hid (show fs.find? P = none by have := HNO.out; rwa [List.take_length] at this)
      have HB := Lib.hid hI.below
      clear hI
      go_wp2_with fail
      go_ret2
      rw [HNN.out]
      exact ⟨none, 0, rfl, .inl rfl, HB.out⟩

end Go.Proofs.YtgoidphamkpmdaaGreat
