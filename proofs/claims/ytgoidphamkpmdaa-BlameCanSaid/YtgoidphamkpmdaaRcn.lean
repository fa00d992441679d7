/- CanPass of the document's side: contract. -/
import Derived.Test.YtgoidphamkpmdaaRcp
set_option linter.unusedVariables false
set_option linter.unusedSimpArgs false
namespace Go.Proofs.Ytgoidphamkpmdaa
open Go.RowKit Tinker

theorem vals_rng : valsTo 25 = rng (-12) 12 := by decide
theorem compl_succ : ∀ (k : Nat) (pre : List Int), compl (k + 1) pre = (compl k pre).flatMap (Tinker.exP (-12) 12)
  | 0, pre => by
    show (valsTo 25).flatMap (fun v => [pre ++ [v]]) = [pre].flatMap (Tinker.exP (-12) 12)
    rw [vals_rng]
    unfold Tinker.exP
    rw [List.flatMap_cons, List.flatMap_nil, List.append_nil]
    exact (List.map_eq_flatMap).symm
  | k + 1, pre => by
    show (valsTo 25).flatMap (fun v => compl (k + 1) (pre ++ [v])) = ((valsTo 25).flatMap fun v => compl k (pre ++ [v])).flatMap (Tinker.exP (-12) 12)
    rw [List.flatMap_assoc]
    exact congrArg (fun F => (valsTo 25).flatMap F) (funext fun v => compl_succ k (pre ++ [v]))
theorem compl_pk : ∀ n, compl n [] = pkL (-12) n
  | 0 => rfl
  | n + 1 => by rw [compl_succ, compl_pk n]; rfl
theorem pkL_btw : ∀ {k : Nat} {s : List Int}, s ∈ pkL (-12) k → ∀ v ∈ s, -12 ≤ v ∧ v ≤ 12
  | 0, s, h, v, hv => by simp [pkL] at h; subst h; simp at hv
  | k + 1, s, h, v, hv => by
    obtain ⟨y, hy, hs⟩ := List.mem_flatMap.1 h
    unfold Tinker.exP at hs
    obtain ⟨n, hn, rfl⟩ := List.mem_map.1 hs
    rcases List.mem_append.1 hv with h1 | h1
    · exact pkL_btw hy v h1
    · obtain rfl : v = n := by simpa using h1
      exact rng_mem hn
theorem pk_fC {ps : List L} {t : T} {ls vs : List Int} (hz : vpt ps [t] = 0) (hln : lnC ps ls = 0) (hv : vs ∈ pkL (-12) ls.length) : fC ps t.inn ls vs = 0 := by
  obtain ⟨h1, h2, h3, h4⟩ := lnC_ok hln
  have hT := (vts_ok (vpt_ok hz).2).2 t (by simp)
  have hr : vr ps t.inn = 0 := by unfold vr fe; rw [if_pos (vpt_ok hz).1]; exact (isT_ok hT).1
  rw [fC_vr hr]
  refine fcC_0 h1 h2 (pkL_in hv).symm (List.all_eq_true.2 fun v hvv => btw_true.2 (by have := pkL_btw hv v hvv; omega)) (List.all_eq_true.2 fun n hn => ?_)
  have := List.all_eq_true.1 h4 n hn
  unfold wrB at this
  exact (Bool.and_eq_true _ _ ▸ this).2

set_option maxRecDepth 100000 in
set_option maxHeartbeats 4000000 in
theorem rCanPass_any (a b c : Option Addr) (ca cb cc : Nat) (ps : List L) (t : T) (ls : List Int) (w : World) (hp : LinesAt w a ps) (hs : IntsAt w b t.inn) (hl : IntsAt w c ls) (hm : ls.length ≤ 1000) (hmp : ps.length ≤ 1000) :
    Calls Try.prog 46 #[.slice a ps.length ca, .agg #[.slice b t.inn.length cb, .int .i64 t.out, .int .i64 t.want], .slice c ls.length cc] w (GivesOE (cnO ps t ls) (cnC ps t ls) w) := by
  have HI := Lib.hid (boxT_new (a := b) (n := t.inn.length) (ca := cb) (out := t.out) (want := t.want) w)
  have x0 := HI.out.c0
  have x1 := HI.out.c1
  have x2 := HI.out.c2
  have HV := Lib.hid (fun g w hp hts => rTested3_any a g ca 1 ps [t] w hp hts)
  have HLN := Lib.hid (fun w hp hl => rLined_any a c ca cc ps ls w hp hl hm hmp)
  have HP := Lib.hid hp
  have HL := Lib.hid hl
  have HS0 := Lib.hid hs
  have HS := Lib.hid (hs.below HI.out.below (Nat.le_refl _))
  by_cases hz : vpt ps [t] = 0
  · have hT := (vts_ok (vpt_ok hz).2).2 t (by simp)
    have e1 : cnC ps t ls = lnC ps ls := by unfold cnC; rw [if_pos hz]
    by_cases hln : lnC ps ls = 0
    · have h2 := (lnC_ok hln).2.2.1
      have hpl := pkL_len (l := -12) rfl (k := ls.length) h2
      have HPK := Lib.hid (fun w => rPicks_any ls.length h2 w)
      have HCP := Lib.hid (fun g cg w hp hs hl hf => rcanPass_any a b c g ca cb cc cg ps t ls (pkL (-12) ls.length) w hp hs hl hf hT (fun vs hv => pk_fC hz hln hv) hm (by omega) (fun vs hv => by rw [pkL_in hv]; omega))
      have e2 : cnO ps t ls = (pkL (-12) ls.length).find? (pasF ps t ls) := by unfold cnO; rw [e1, if_pos hln]; unfold pickO; rw [compl_pk]
      rw [e2, e1, hln]
      rw [hz] at HV
      rw [hln] at HLN
      generalize (pkL (-12) ls.length).find? (pasF ps t ls) = O at HCP ⊢
      generalize pkL (-12) ls.length = fs at HPK HCP hpl
      obtain ⟨inn, out, want⟩ := t
      simp only at *
      clear hz hT e1 e2 hln h2 hp hs hl hm hmp
      go_enter Try.func46, Try.ntmps46
      go_wp2_with fail
      refine (HV.out _ _ ?_ ?_).mono ?_
      · exact HP.out.below (HI.out.below.alloc HI.out.below.size _) (Nat.le_refl _)
      · exact tests_one (t := ⟨inn, out, want⟩) (by simp) HS.out
      rintro e w1 ⟨rfl, hB⟩
      have HI1 := Lib.hid ((HI.out.low ((Below.refl _ _).alloc (Nat.le_refl _) _)).low hB)
      clear hB x0 x1 x2 HI
      go_wp2_with fail
      refine (HLN.out _ (HP.out.below HI1.out.below (Nat.le_refl _)) (HL.out.below HI1.out.below (Nat.le_refl _))).mono ?_
      rintro e w2 ⟨rfl, hB⟩
      have hI := HI1.out.low hB
      clear hB HI1
      have x0 := hI.c0
      have x1 := hI.c1
      have x2 := hI.c2
      replace hI := hI.drew
      go_wp2_with fail
      go_region_held3 (fun w' => w'.cell? ⟨w.heap.size, 0, none⟩ = some (.slice b inn.length cb) ∧ w'.cell? ⟨w.heap.size, 1, none⟩ = some (.int .i64 out) ∧ w'.cell? ⟨w.heap.size, 2, none⟩ = some (.int .i64 want)) (first | exact ⟨hI.c0, hI.c1, hI.c2⟩ | go_keep) (first | (go_at_call 94; refine (HPK.out _).mono ?_; rintro e wa ⟨a5, c5, rfl, h5, hBa⟩; replace hI := hI.low hBa; clear hBa x0 x1 x2; have x0 := hI.c0; have x1 := hI.c1; have x2 := hI.c2) | (go_at_call 93; refine (HCP.out _ _ _ ?_ ?_ ?_ ?_).mono ?_; exact (HP.out.below hI.below (Nat.le_refl _)); exact (HS0.out.below hI.below (Nat.le_refl _)); exact (HL.out.below hI.below (Nat.le_refl _)); exact h5; rintro e wb ⟨a6, c6, rfl, h6, hBb⟩; replace hI := hI.low hBb; clear hBb x0 x1 x2; have x0 := hI.c0; have x1 := hI.c1; have x2 := hI.c2))
      all_goals go_wp2_with fail
      all_goals go_ret3
      all_goals exact ⟨_, _, rfl, h6, hI.below⟩
    · have e2 : cnO ps t ls = none := by unfold cnO; rw [e1, if_neg hln]
      rw [e2, e1]
      rw [hz] at HV
      generalize lnC ps ls = co at HLN hln ⊢
      have hz1 : (co != 0) = true := by simpa using hln
      have hz2 : (co == 0) = false := by simpa using hln
      clear hz hT e1 e2 hln hp hs hl hm hmp
      go_enter Try.func46, Try.ntmps46
      go_wp2_with fail
      refine (HV.out _ _ ?_ ?_).mono ?_
      · exact HP.out.below (HI.out.below.alloc HI.out.below.size _) (Nat.le_refl _)
      · exact tests_one (by simp) HS.out
      rintro e w1 ⟨rfl, hB⟩
      have HI1 := Lib.hid ((HI.out.low ((Below.refl _ _).alloc (Nat.le_refl _) _)).low hB)
      clear hB x0 x1 x2 HI
      go_wp2_with fail
      refine (HLN.out _ (HP.out.below HI1.out.below (Nat.le_refl _)) (HL.out.below HI1.out.below (Nat.le_refl _))).mono ?_
      rintro e w2 ⟨rfl, hB⟩
      go_wp2_with fail
      go_ret3
      exact ⟨none, 0, rfl, .inl rfl, (HI1.out.low hB).below⟩
  · have e1 : cnC ps t ls = vpt ps [t] := by unfold cnC; rw [if_neg hz]
    have e2 : cnO ps t ls = none := by unfold cnO; rw [e1, if_neg hz]
    rw [e2, e1]
    generalize vpt ps [t] = co at HV hz ⊢
    have hz1 : (co != 0) = true := by simpa using hz
    have hz2 : (co == 0) = false := by simpa using hz
    clear hz e1 e2 hp hs hl hm hmp
    go_enter Try.func46, Try.ntmps46
    go_wp2_with fail
    refine (HV.out _ _ ?_ ?_).mono ?_
    · exact HP.out.below (HI.out.below.alloc HI.out.below.size _) (Nat.le_refl _)
    · exact tests_one (by simp) HS.out
    rintro e w1 ⟨rfl, hB⟩
    go_wp2_with fail
    go_ret3
    exact ⟨none, 0, rfl, .inl rfl, ((HI.out.low ((Below.refl _ _).alloc (Nat.le_refl _) _)).low hB).below⟩

end Go.Proofs.Ytgoidphamkpmdaa
