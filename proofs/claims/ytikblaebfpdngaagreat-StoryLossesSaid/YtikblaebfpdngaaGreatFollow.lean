/- follow: its contract. -/
import Derived.Test.YtikblaebfpdngaaGreatFolB
import Derived.Laws.EntriesVeiled
import Derived.Deep.RegionHeld3
set_option linter.unusedVariables false
set_option linter.unusedSimpArgs false
namespace Go.Proofs.YtikblaebfpdngaaGreat
open Go.RowKit Tinker

/-- The blocks that stay: the course (its cells cs), what is forced, the table, the result. -/
structure FolQ (fb : Array Value) (F R T C : Nat) (w : World) (cs : Array Value) (wx : World) : Prop where
  bc : wx.heap[C]? = some (.cells cs 154 (0, 0))
  bf : wx.heap[F]? = some (.cells fb 159 (0, 0))
  bt : wx.heap[T]? = some (.cells opsT 142 (0, 0))
  br : wx.heap[R]? = some (.cells cv0 154 (0, 0))
  lt : w.heap.size ≤ C ∧ w.heap.size ≤ F ∧ w.heap.size ≤ T ∧ w.heap.size ≤ R ∧ C ≠ F ∧ C ≠ T ∧ C ≠ R
  below : Below w.heap.size w wx

theorem FolQ.alloc {fb : Array Value} {F R T C : Nat} {w wx : World} {cs : Array Value} (h : FolQ fb F R T C w cs wx) (o : Obj) : FolQ fb F R T C w cs (wx.alloc o) :=
  ⟨hp_alloc h.bc, hp_alloc h.bf, hp_alloc h.bt, hp_alloc h.br, h.lt, h.below.alloc h.below.size o⟩
theorem FolQ.drew {fb : Array Value} {F R T C : Nat} {w wx : World} {cs : Array Value} (h : FolQ fb F R T C w cs wx) : FolQ fb F R T C w cs wx.drew :=
  ⟨h.bc, h.bf, h.bt, h.br, h.lt, h.below.drew⟩
theorem FolQ.put {fb : Array Value} {F R T C : Nat} {w wx : World} {cs : Array Value} (h : FolQ fb F R T C w cs wx) (n : Nat) (v : Value) : FolQ fb F R T C w (cs.setIfInBounds n v) (wx.setCell ⟨C, n, none⟩ v) :=
  ⟨hp_put h.bc n v, hp_set h.bf (fun e => h.lt.2.2.2.2.1 e.symm) v, hp_set h.bt (fun e => h.lt.2.2.2.2.2.1 e.symm) v, hp_set h.br (fun e => h.lt.2.2.2.2.2.2 e.symm) v, h.lt, h.below.setCell (p := ⟨C, n, none⟩) h.lt.1 v⟩

/-- In a round: the blocks that stay, the line, its row of the table. -/
structure FolR (fb : Array Value) (F R T C Lb Ob : Nat) (l : L) (k0 k1 k2 : Int) (f g : Nat) (w : World) (cs : Array Value) (wx : World) : Prop where
  q : FolQ fb F R T C w cs wx
  bl : wx.heap[Lb]? = some (.cells #[.int .i64 l.op, .int .i64 l.to, .int .i64 l.a, .int .i64 l.b] 56 (0, 0))
  bo : wx.heap[Ob]? = some (.cells #[.int .i64 k0, .int .i64 k1, .int .i64 k2, .func (.func f) #[] #[], .func (.func g) #[] #[]] 141 (0, 0))
  ne : C ≠ Lb ∧ C ≠ Ob

theorem FolR.alloc {fb : Array Value} {F R T C Lb Ob : Nat} {l : L} {k0 k1 k2 : Int} {f g : Nat} {w wx : World} {cs : Array Value} (h : FolR fb F R T C Lb Ob l k0 k1 k2 f g w cs wx) (o : Obj) : FolR fb F R T C Lb Ob l k0 k1 k2 f g w cs (wx.alloc o) :=
  ⟨h.q.alloc o, hp_alloc h.bl, hp_alloc h.bo, h.ne⟩
theorem FolR.drew {fb : Array Value} {F R T C Lb Ob : Nat} {l : L} {k0 k1 k2 : Int} {f g : Nat} {w wx : World} {cs : Array Value} (h : FolR fb F R T C Lb Ob l k0 k1 k2 f g w cs wx) : FolR fb F R T C Lb Ob l k0 k1 k2 f g w cs wx.drew :=
  ⟨h.q.drew, h.bl, h.bo, h.ne⟩
theorem FolR.put {fb : Array Value} {F R T C Lb Ob : Nat} {l : L} {k0 k1 k2 : Int} {f g : Nat} {w wx : World} {cs : Array Value} (h : FolR fb F R T C Lb Ob l k0 k1 k2 f g w cs wx) (n : Nat) (v : Value) : FolR fb F R T C Lb Ob l k0 k1 k2 f g w (cs.setIfInBounds n v) (wx.setCell ⟨C, n, none⟩ v) :=
  ⟨h.q.put n v, hp_set h.bl (fun e => h.ne.1 e.symm) v, hp_set h.bo (fun e => h.ne.2 e.symm) v, h.ne⟩

theorem put4_cv {s : List Int} {d : List Bool} {b : List Int} {i : Nat} {t0 t1 t2 t3 : Int} (hs : s.length = 4) (hd : d.length = 8) :
    (((((cv s d b).setIfInBounds (12 + i * 4) (.int .i64 t0)).setIfInBounds (12 + i * 4 + 1) (.int .i64 t1)).setIfInBounds (12 + i * 4 + 1 + 1) (.int .i64 t2)).setIfInBounds (12 + i * 4 + 1 + 1 + 1) (.int .i64 t3)) = cv s d (put4 b i [t0, t1, t2, t3]) := by
  rw [cv_set2 hs hd, show 12 + i * 4 + 1 = 12 + (i * 4 + 1) by omega, cv_set2 hs hd, show 12 + (i * 4 + 1) + 1 = 12 + (i * 4 + 2) by omega, cv_set2 hs hd, show 12 + (i * 4 + 2) + 1 = 12 + (i * 4 + 3) by omega, cv_set2 hs hd]
  simp [put4]

theorem one4 (a b c d : Int) : (#[Value.int .i64 a, .int .i64 b, .int .i64 c, .int .i64 d] : Array Value).all (·.oneCell') = true := by simp [Value.oneCell']
theorem wr_to {l : L} (hl : isLn l = true) (hw : Tinker.wr l = true) : 0 ≤ l.to ∧ l.to ≤ 3 := by
  have := isLn_op hl
  simp only [Tinker.wr, Bool.and_eq_true, bne_iff_ne] at hw
  exact isLn_to hl (by omega) (by omega)
theorem fol_next {ps : List L} {f : Nat → Option Int} {s0 s : List Int} {i : Nat} {acc : List (Nat × List Int)} {l : L} (hl : ps[i]? = some l) (h1 : (tr ps f 0 s0).1 = acc ++ (tr ps f i s).1) (h2 : (tr ps f 0 s0).2 = (tr ps f i s).2) :
    (tr ps f 0 s0).1 = (acc ++ [(i, s)]) ++ (tr ps f (nxt l s i) (stp l s (f i))).1 ∧ (tr ps f 0 s0).2 = (tr ps f (nxt l s i) (stp l s (f i))).2 := by
  rw [h1, h2, tr_lt hl]; simp
theorem nxt_no {l : L} {s : List Int} {i : Nat} (h : skips l s = false) : nxt l s i = i + 1 := by unfold nxt; rw [h]; rfl
theorem nxt_yes {l : L} {s : List Int} {i : Nat} (h : skips l s = true) : nxt l s i = i + 1 + l.to.toNat := by unfold nxt; rw [h]; rfl
theorem skips_op {l : L} {s : List Int} (h : skips l s = true) : l.op = 7 := by
  unfold skips at h; simp only [Bool.and_eq_true, beq_iff_eq] at h; exact h.1
theorem there_of {w : World} {g o n : Nat} {cs : Array Value} {t : TypeId} (h : w.heap[g]? = some (.cells cs t (0, 0))) (hn : o + n ≤ cs.size) : w.there g o n := fun j hj =>
  ⟨by rw [cell_of_row w g (o + j) cs t (0, 0) h, Array.getElem?_eq_getElem (by omega)]; rfl, hp_free h _⟩
theorem range_of {w : World} {g o : Nat} {cs : Array Value} {t : TypeId} (h : w.heap[g]? = some (.cells cs t (0, 0))) {vs : List Value} (hv : ∀ j v, vs[j]? = some v → cs[o + j]? = some v) : w.rangeAt g o vs := fun j v hj => hp_cell h (hv j v hj)

set_option maxRecDepth 100000 in
set_option maxHeartbeats 4000000 in
theorem follow_any (a : Option Addr) (ca : Nat) (ps : List L) (s : List Int) (d : List Bool) (b : List Int) (w : World) (hp : LinesAt w a ps) (h8 : ps.length ≤ 8) (hv : ∀ l ∈ ps, isLn l = true) (hs : okS s) (hd : d.length = 8) (hb : b.length = 8) (hf : okF ps (fOf d b)) :
    Calls Tryz.prog 133 #[.slice a ps.length ca, .agg (iv s), .agg (fv d b)] w (GivesCourse ps (fOf d b) s w) := by
  obtain ⟨s0, s1, s2, s3, rfl⟩ := list4 hs.1
  go_enter Tryz.func133, Tryz.ntmps133
  go_upto_region 1 with fail
  go_cut [4, 5, 6, 7] (fun s4 s5 s6 s7 wx => ∃ A F R T : Nat, s4 = .pointer (some ⟨A, 0, none⟩) ∧ s5 = .pointer (some ⟨F, 0, none⟩) ∧ s6 = .pointer (some ⟨R, 0, none⟩) ∧ s7 = .pointer (some ⟨T, 0, none⟩) ∧ w.heap.size ≤ F ∧ w.heap.size ≤ T ∧ w.heap.size ≤ R ∧
      wx.heap[A]? = some (.cells #[.int .i64 s0, .int .i64 s1, .int .i64 s2, .int .i64 s3] 151 (0, 0)) ∧ wx.heap[F]? = some (.cells (fv d b) 159 (0, 0)) ∧ wx.heap[R]? = some (.cells cv0 154 (0, 0)) ∧ wx.heap[T]? = some (.cells opsT 142 (0, 0)) ∧ Below w.heap.size w wx)
  case first =>
    go_wp2_with fail
    refine (operations_any _).mono ?_
    rintro e w' ⟨rfl, rfl⟩
    go_wp2_with (refine wpList_store_row rfl 142 (.tmp 7) (.tmp 14) rfl _ opsT rfl rfl 142 _ (hp_new (by simp)) opsT_info rfl opsT_one ?_)
    go_meet
    refine ⟨_, _, _, _, rfl, rfl, rfl, rfl, by omega, by omega, by omega, ?_, ?_, ?_, ?_, ?_⟩
    · refine hp_row ?_ (by omega) _
      repeat first | (refine hp_new ?_; simp; done) | refine hp_alloc ?_
    · refine hp_row ?_ (by omega) _
      repeat first | (refine hp_new ?_; simp; done) | refine hp_alloc ?_
    · refine hp_row ?_ (by omega) _
      repeat first | (refine hp_new ?_; simp; done) | refine hp_alloc ?_
    · refine hp_row_same (hp_new (by simp)) _
    · refine below_setRow (((((((Below.refl _ _).alloc (Nat.le_refl _) _).alloc (by simp) _).alloc (by simp; omega) _).alloc (by simp; omega) _).alloc (by simp; omega) _)) (by omega) _
  case rest =>
    obtain ⟨A, F, R, T, rfl, rfl, rfl, rfl, gF, gT, gR, ba, bf, br, bt, hB⟩ := hcut
    have HA := Lib.hid ba
    have HF := Lib.hid bf
    have HR := Lib.hid br
    have HT := Lib.hid bt
    clear ba bf br bt
    have hFl := hp_lt HF.out
    have hRl := hp_lt HR.out
    have hTl := hp_lt HT.out
    go_upto_region 2 with fail
    go_cut [8] (fun s8 wx => ∃ C : Nat, s8 = .pointer (some ⟨C, 0, none⟩) ∧ FolQ (fv d b) F R T C w (cv [s0, s1, s2, s3] (List.replicate 8 false) (List.replicate 32 0)) wx)
    case first =>
      go_wp2_with (first | (refine wpList_load_row rfl 151 (.tmp 4) rfl A rfl 151 #[.int .i64 s0, .int .i64 s1, .int .i64 s2, .int .i64 s3] (0, 0) _ HA.out Tryz.underlying151 rfl info_st ?_) | (refine wpList_store_row rfl 154 (.tmp 8) (.tmp 16) rfl _ (cv [s0, s1, s2, s3] (List.replicate 8 false) (List.replicate 32 0)) rfl rfl 154 _ (hp_new (by simp)) (info_cr' rfl (by simp) (by simp)) rfl (cv_one _ _ _) ?_))
      go_meet
      exact ⟨_, rfl, hp_row_same (hp_new rfl) _, hp_row (hp_alloc HF.out) (by omega) _, hp_row (hp_alloc HT.out) (by omega) _, hp_row (hp_alloc HR.out) (by omega) _, ⟨hB.size, by omega, by omega, by omega, by omega, by omega, by omega⟩, below_setRow (hB.alloc hB.size _) hB.size _⟩
    case rest =>
      obtain ⟨C, rfl, hQ⟩ := hcut
      clear HA HF HR HT hB hFl hRl hTl gF gT gR
      go_wp2_with fail
      go_loopw [9] (fun s9 wr => ∃ (i : Nat) (s : List Int) (acc : List (Nat × List Int)), s9 = .int .i64 i ∧ i ≤ 16 ∧ (tr ps (fOf d b) 0 [s0, s1, s2, s3]).1 = acc ++ (tr ps (fOf d b) i s).1 ∧ (tr ps (fOf d b) 0 [s0, s1, s2, s3]).2 = (tr ps (fOf d b) i s).2 ∧ okS s ∧ FolQ (fv d b) F R T C w (cv s (doneL acc) (befL acc)) wr) (fun s9 _ => ps.length - (intOf s9).toNat)
      case atStart => exact ⟨0, [s0, s1, s2, s3], [], rfl, by omega, rfl, rfl, hs, hQ⟩
      case round =>
        obtain ⟨i, s, acc, rfl, hi16, ht1, ht2, hsok, hR⟩ := hrel
        clear hQ hi16
        have HT1 := Lib.hid ht1
        have HT2 := Lib.hid ht2
        clear ht1 ht2
        by_cases hlt : i < ps.length
        · obtain ⟨t0, t1, t2, t3, rfl⟩ := list4 hsok.1
          go_upto_region 6 with fail
          go_cut [] (fun wx => FolQ (fv d b) F R T C w (cv [t0, t1, t2, t3] (doneL (acc ++ [(i, [t0, t1, t2, t3])])) (befL (acc ++ [(i, [t0, t1, t2, t3])]))) wx)
          case first =>
            have dl := doneL_length acc
            have bl := befL_length acc
            have e1 := hp_cell hR.bc (cv_get0 (n := 0) (by simp))
            have e2 := hp_cell hR.bc (cv_get0 (n := 1) (by simp))
            have e3 := hp_cell hR.bc (cv_get0 (n := 2) (by simp))
            have e4 := hp_cell hR.bc (cv_get0 (n := 3) (by simp))
            have e5 := hp_cell hR.bc (cv_get1 (n := i) rfl (by omega))
            have e6 := hp_free hR.bc (4 + i)
            have HT3 : Hid (((wr.setCell ⟨C, 4 + i, none⟩ (.bool true))).there C (12 + i * 4) 4) := there_of (hp_put hR.bc (4 + i) (.bool true)) (by rw [Array.size_setIfInBounds, cv_size rfl dl bl]; omega)
            have HO := Lib.hid (one4 t0 t1 t2 t3)
            have HD := Lib.hid dl
            simp only [List.getD_cons_zero, List.getD_cons_succ] at e1 e2 e3 e4
            clear hp dl bl
            go_wp2_with (refine wpList_store_mid rfl 151 (.tmp 30) (.tmp 26) rfl C (12 + i * 4) #[.int .i64 t0, .int .i64 t1, .int .i64 t2, .int .i64 t3] rfl rfl HT3.out info_st HO.out ?_)
            go_meet
            have q := ((((hR.put (4 + i) (.bool true)).put (12 + i * 4) (.int .i64 t0)).put (12 + i * 4 + 1) (.int .i64 t1)).put (12 + i * 4 + 1 + 1) (.int .i64 t2)).put (12 + i * 4 + 1 + 1 + 1) (.int .i64 t3)
            rw [cv_set1 rfl (by rw [HD.out]; omega), put4_cv rfl (by simp [HD.out]), ← doneL_snoc acc i [t0, t1, t2, t3], ← befL_snoc] at q
            exact q
          case rest =>
            clear hR
            have hq0 := hcut
            clear hcut
            obtain ⟨pb, off, l, rfl, hlb, hl, h0, h1, h2, h3⟩ := (hp.below hq0.below (Nat.le_refl _)).at_ hlt
            have HL := Lib.hid hl
            obtain ⟨k0, k1, k2, f, g, hrow⟩ := rowP_of (hv l (mem_of_get hl)) hsok
            clear hl
            go_upto_region 7 with fail
            go_cut [10] (fun s10 wx => ∃ Lb : Nat, s10 = .pointer (some ⟨Lb, 0, none⟩) ∧ FolQ (fv d b) F R T C w (cv [t0, t1, t2, t3] (doneL (acc ++ [(i, [t0, t1, t2, t3])])) (befL (acc ++ [(i, [t0, t1, t2, t3])]))) wx ∧ wx.heap[Lb]? = some (.cells #[.int .i64 l.op, .int .i64 l.to, .int .i64 l.a, .int .i64 l.b] 56 (0, 0)) ∧ C ≠ Lb)
            case first =>
              go_wp2_with fail
              go_meet
              exact ⟨_, rfl, hq0.alloc _, hp_new rfl, by have := hp_lt hq0.bc; omega⟩
            case rest =>
              clear hq0 h0 h1 h2 h3 hlb
              obtain ⟨Lb, rfl, hq, hLb, hCL⟩ := hcut
              go_upto_region 8 with fail
              go_cut [11] (fun s11 wx => ∃ Ob : Nat, s11 = .pointer (some ⟨Ob, 0, none⟩) ∧ FolR (fv d b) F R T C Lb Ob l k0 k1 k2 f g w (cv [t0, t1, t2, t3] (doneL (acc ++ [(i, [t0, t1, t2, t3])])) (befL (acc ++ [(i, [t0, t1, t2, t3])]))) wx)
              case first =>
                have e0 := hp_cell hLb (j := 0) (by rfl)
                have HG := Lib.hid (range_of hq.bt hrow.fcells)
                obtain ⟨op0, op7⟩ := hrow.fop
                have lt := Lib.hid (hp_lt hq.bc)
                go_wp2_with (refine wpList_load_mid rfl 141 (.tmp 37) rfl T (l.op.toNat * 5) rfl _ _ HG.out Tryz.underlying141 rfl info_op5 ?_)
                go_meet
                exact ⟨_, rfl, hq.alloc _, hp_alloc hLb, hp_new rfl, hCL, by have := lt.out; omega⟩
              case rest =>
                clear hq hLb hCL
                obtain ⟨Ob, rfl, hr⟩ := hcut
                go_upto_region 9 with fail
                go_cut [12, 13] (fun s12 s13 wx => s12 = .int .i64 (inK k1 [t0, t1, t2, t3] l.a) ∧ s13 = .int .i64 (inK k2 [t0, t1, t2, t3] l.b) ∧ FolR (fv d b) F R T C Lb Ob l k0 k1 k2 f g w (cv [t0, t1, t2, t3] (doneL (acc ++ [(i, [t0, t1, t2, t3])])) (befL (acc ++ [(i, [t0, t1, t2, t3])]))) wx)
                case first =>
                  have e1 := hp_cell hr.q.bc (cv_get0 (n := 0) (by simp))
                  have e2 := hp_cell hr.q.bc (cv_get0 (n := 1) (by simp))
                  have e3 := hp_cell hr.q.bc (cv_get0 (n := 2) (by simp))
                  have e4 := hp_cell hr.q.bc (cv_get0 (n := 3) (by simp))
                  simp only [List.getD_cons_zero, List.getD_cons_succ] at e1 e2 e3 e4
                  have e5 := hp_cell hr.bl (j := 2) (by rfl)
                  have e6 := hp_cell hr.bl (j := 3) (by rfl)
                  have e7 := hp_cell hr.bo (j := 1) (by rfl)
                  have e8 := hp_cell hr.bo (j := 2) (by rfl)
                  have c1 := fun W => in_exact k1 l.a [t0, t1, t2, t3] W rfl hrow.fk1 hrow.fa
                  have c2 := fun W => in_exact k2 l.b [t0, t1, t2, t3] W rfl hrow.fk2 hrow.fb
                  have C1 := Lib.hid c1
                  have C2 := Lib.hid c2
                  have HRow := Lib.hid hrow
                  clear c1 c2 hrow
                  go_wp2_with fail
                  go_region_held3 (fun w' => w'.cell? ⟨C, 0, none⟩ = some (.int .i64 t0) ∧ w'.cell? ⟨C, 1, none⟩ = some (.int .i64 t1) ∧ w'.cell? ⟨C, 2, none⟩ = some (.int .i64 t2) ∧ w'.cell? ⟨C, 3, none⟩ = some (.int .i64 t3) ∧ w'.cell? ⟨Lb, 2, none⟩ = some (.int .i64 l.a) ∧ w'.cell? ⟨Lb, 3, none⟩ = some (.int .i64 l.b) ∧ w'.cell? ⟨Ob, 1, none⟩ = some (.int .i64 k1) ∧ w'.cell? ⟨Ob, 2, none⟩ = some (.int .i64 k2)) (go_keep)
                    (first | (go_at_call_of 158 (Value.int .i64 k1); refine (C1.out _).mono ?_; rintro e w' ⟨rfl, rfl⟩) | (go_at_call_of 158 (Value.int .i64 k2); refine (C2.out _).mono ?_; rintro e w' ⟨rfl, rfl⟩))
                  all_goals go_wp2_with fail
                  all_goals go_meet
                  all_goals refine ⟨rfl, rfl, ?_⟩
                  all_goals (repeat first | exact hr | refine FolR.drew ?_ | refine FolR.alloc ?_ _)
                case rest =>
                  clear hr
                  obtain ⟨rfl, rfl, hr⟩ := hcut
                  have hli : isLn l = true := hv l (mem_of_get HL.out)
                  have f1 := hp_cell hr.q.bf (fv_get1 (n := i) (b := b) (show i < d.length by omega))
                  generalize hdi : d.getD i false = x at f1
                  have HDI := Lib.hid hdi
                  clear hdi
                  go_upto_if 56 with fail
                  go_cut [] (fun wx => FolR (fv d b) F R T C Lb Ob l k0 k1 k2 f g w (cv (stp l [t0, t1, t2, t3] (fOf d b i)) (doneL (acc ++ [(i, [t0, t1, t2, t3])])) (befL (acc ++ [(i, [t0, t1, t2, t3])]))) wx)
                  case first =>
                    cases x
                    · have ho : fOf d b i = none := by unfold fOf; rw [HDI.out]; rfl
                      have e7 := hp_cell hr.bo (j := 0) (by rfl)
                      have e8 := hrow.fwr
                      cases hw : Tinker.wr l
                      · have HS := Lib.hid (show stp l [t0, t1, t2, t3] (fOf d b i) = [t0, t1, t2, t3] by unfold stp; rw [hw]; rfl)
                        rw [hw] at e8
                        have HRow := Lib.hid hrow
                        clear hrow ho hw
                        go_wp2_with fail
                        go_meet
                        rw [HS.out]
                        exact hr
                      · obtain ⟨v, hv1, hv2⟩ := hrow.fres hw
                        have htd := wr_to hli hw
                        obtain ⟨td0, td1⟩ := htd
                        have HS := Lib.hid (show stp l [t0, t1, t2, t3] (fOf d b i) = [t0, t1, t2, t3].set l.to.toNat (cutv v) by unfold stp; rw [hw, ho, hv1]; rfl)
                        rw [hw] at e8
                        have HV := Lib.hid hv2
                        have hfn := hrow.ffn
                        have HRow := Lib.hid hrow
                        have e9 := hp_cell hr.bo (j := 3) (by rfl)
                        have e10 := hp_cell hr.bl (j := 1) (by rfl)
                        have e11 := hp_cell hr.q.bc (cv_get0 (n := l.to.toNat) (by simp; omega))
                        have e12 := hp_free hr.q.bc l.to.toNat
                        clear hrow ho hw hv1 hv2
                        obtain ⟨n1, n2⟩ := hr.ne
                        have n3 := Ne.symm n1
                        have n4 := Ne.symm n2
                        have td2 : l.to < 4 := by omega
                        rcases hfn with rfl | rfl | rfl | rfl | rfl
                        · go_wp2_with fail
                          go_region_held3 (fun w' => w'.cell? ⟨Lb, 1, none⟩ = some (.int .i64 l.to) ∧ w'.cell? ⟨Ob, 3, none⟩ = some (.func (.func 139) #[] #[])) (go_keep)
                            (first | (go_at_call 159; refine (cut_any _ _).mono ?_; rintro e w' ⟨rfl, rfl⟩) | (go_at_call 139; refine (HV.out _).mono ?_; rintro e w' ⟨rfl, rfl⟩))
                          all_goals go_wp2_with fail
                          all_goals go_meet
                          all_goals rw [HS.out, ← cv_set0 (show l.to.toNat < [t0, t1, t2, t3].length by simp; omega)]
                          all_goals exact (hr.put l.to.toNat (.int .i64 (cutv v))).drew
                        · go_wp2_with fail
                          go_region_held3 (fun w' => w'.cell? ⟨Lb, 1, none⟩ = some (.int .i64 l.to) ∧ w'.cell? ⟨Ob, 3, none⟩ = some (.func (.func 141) #[] #[])) (go_keep)
                            (first | (go_at_call 159; refine (cut_any _ _).mono ?_; rintro e w' ⟨rfl, rfl⟩) | (go_at_call 141; refine (HV.out _).mono ?_; rintro e w' ⟨rfl, rfl⟩))
                          all_goals go_wp2_with fail
                          all_goals go_meet
                          all_goals rw [HS.out, ← cv_set0 (show l.to.toNat < [t0, t1, t2, t3].length by simp; omega)]
                          all_goals exact (hr.put l.to.toNat (.int .i64 (cutv v))).drew
                        · go_wp2_with fail
                          go_region_held3 (fun w' => w'.cell? ⟨Lb, 1, none⟩ = some (.int .i64 l.to) ∧ w'.cell? ⟨Ob, 3, none⟩ = some (.func (.func 142) #[] #[])) (go_keep)
                            (first | (go_at_call 159; refine (cut_any _ _).mono ?_; rintro e w' ⟨rfl, rfl⟩) | (go_at_call 142; refine (HV.out _).mono ?_; rintro e w' ⟨rfl, rfl⟩))
                          all_goals go_wp2_with fail
                          all_goals go_meet
                          all_goals rw [HS.out, ← cv_set0 (show l.to.toNat < [t0, t1, t2, t3].length by simp; omega)]
                          all_goals exact (hr.put l.to.toNat (.int .i64 (cutv v))).drew
                        · go_wp2_with fail
                          go_region_held3 (fun w' => w'.cell? ⟨Lb, 1, none⟩ = some (.int .i64 l.to) ∧ w'.cell? ⟨Ob, 3, none⟩ = some (.func (.func 143) #[] #[])) (go_keep)
                            (first | (go_at_call 159; refine (cut_any _ _).mono ?_; rintro e w' ⟨rfl, rfl⟩) | (go_at_call 143; refine (HV.out _).mono ?_; rintro e w' ⟨rfl, rfl⟩))
                          all_goals go_wp2_with fail
                          all_goals go_meet
                          all_goals rw [HS.out, ← cv_set0 (show l.to.toNat < [t0, t1, t2, t3].length by simp; omega)]
                          all_goals exact (hr.put l.to.toNat (.int .i64 (cutv v))).drew
                        · go_wp2_with fail
                          go_region_held3 (fun w' => w'.cell? ⟨Lb, 1, none⟩ = some (.int .i64 l.to) ∧ w'.cell? ⟨Ob, 3, none⟩ = some (.func (.func 144) #[] #[])) (go_keep)
                            (first | (go_at_call 159; refine (cut_any _ _).mono ?_; rintro e w' ⟨rfl, rfl⟩) | (go_at_call 144; refine (HV.out _).mono ?_; rintro e w' ⟨rfl, rfl⟩))
                          all_goals go_wp2_with fail
                          all_goals go_meet
                          all_goals rw [HS.out, ← cv_set0 (show l.to.toNat < [t0, t1, t2, t3].length by simp; omega)]
                          all_goals exact (hr.put l.to.toNat (.int .i64 (cutv v))).drew
                    · have ho : fOf d b i = some (b.getD i 0) := by unfold fOf; rw [HDI.out]; rfl
                      have hw : Tinker.wr l = true := (hf i _ ho).2 l HL.out
                      obtain ⟨td0, td1⟩ := wr_to hli hw
                      have HS := Lib.hid (show stp l [t0, t1, t2, t3] (fOf d b i) = [t0, t1, t2, t3].set l.to.toNat (b.getD i 0) by unfold stp; rw [hw, ho]; rfl)
                      have HRow := Lib.hid hrow
                      have e9 := hp_cell hr.q.bf (fv_get2 (n := i) hd (show i < b.length by omega))
                      have e10 := hp_cell hr.bl (j := 1) (by rfl)
                      have e11 := hp_cell hr.q.bc (cv_get0 (n := l.to.toNat) (by simp; omega))
                      have e12 := hp_free hr.q.bc l.to.toNat
                      clear hrow ho hw
                      generalize b.getD i 0 = v at e9 HS
                      go_wp2_with fail
                      go_region
                      all_goals go_wp2_with fail
                      all_goals go_meet
                      all_goals rw [HS.out, ← cv_set0 (show l.to.toNat < [t0, t1, t2, t3].length by simp; omega)]
                      all_goals exact (hr.put l.to.toNat (.int .i64 v)).drew
                  case rest =>
                    clear hr
                    have hr := hcut
                    clear hcut
                    have hst : okS (stp l [t0, t1, t2, t3] (fOf d b i)) := okS_stp hsok fun m hm => (hf i m hm).1
                    have HN := Lib.hid (fol_next HL.out HT1.out HT2.out)
                    have e1 := hp_cell hr.bo (j := 4) (by rfl)
                    have e2 := hp_cell hr.bl (j := 1) (by rfl)
                    have HG := Lib.hid hrow.fskp
                    have hgn := hrow.fgn
                    have HRow := Lib.hid hrow
                    have HR := Lib.hid hr.q
                    have hsk : skips l [t0, t1, t2, t3] = true → 1 ≤ l.to ∧ l.to ≤ 8 := fun h => isLn_skip hli (skips_op h)
                    clear hrow hp HT1 HT2
                    generalize hx : skips l [t0, t1, t2, t3] = x at HG hsk
                    have HX := Lib.hid hx
                    clear hx
                    rcases hgn with rfl | rfl
                    · cases x
                      · go_wp2_with (go_at_call 140; refine (HG.out _).mono ?_; rintro e w' ⟨rfl, rfl⟩)
                        go_roundw
                        case rel => exact ⟨nxt l [t0, t1, t2, t3] i, _, _, by rw [nxt_no HX.out]; go_num, by rw [nxt_no HX.out]; omega, HN.out.1, HN.out.2, hst, HR.out⟩
                        case measure => simp [intOf]; omega
                      · obtain ⟨y1, y2⟩ := hsk rfl
                        go_wp2_with (go_at_call 140; refine (HG.out _).mono ?_; rintro e w' ⟨rfl, rfl⟩)
                        go_roundw
                        case rel => exact ⟨nxt l [t0, t1, t2, t3] i, _, _, by rw [nxt_yes HX.out]; exact congrArg _ (by omega), by rw [nxt_yes HX.out]; omega, HN.out.1, HN.out.2, hst, HR.out⟩
                        case measure => simp [intOf]; omega
                    · cases x
                      · go_wp2_with (go_at_call 145; refine (HG.out _).mono ?_; rintro e w' ⟨rfl, rfl⟩)
                        go_roundw
                        case rel => exact ⟨nxt l [t0, t1, t2, t3] i, _, _, by rw [nxt_no HX.out]; go_num, by rw [nxt_no HX.out]; omega, HN.out.1, HN.out.2, hst, HR.out⟩
                        case measure => simp [intOf]; omega
                      · obtain ⟨y1, y2⟩ := hsk rfl
                        go_wp2_with (go_at_call 145; refine (HG.out _).mono ?_; rintro e w' ⟨rfl, rfl⟩)
                        go_roundw
                        case rel => exact ⟨nxt l [t0, t1, t2, t3] i, _, _, by rw [nxt_yes HX.out]; exact congrArg _ (by omega), by rw [nxt_yes HX.out]; omega, HN.out.1, HN.out.2, hst, HR.out⟩
                        case measure => simp [intOf]; omega
        · obtain ⟨hn1, hn2⟩ : (tr ps (fOf d b) i s).1 = [] ∧ (tr ps (fOf d b) i s).2 = s := by rw [tr_ge (by omega)]; exact ⟨rfl, rfl⟩
          have HE := Lib.hid (show cv (tr ps (fOf d b) 0 [s0, s1, s2, s3]).2 (doneL (tr ps (fOf d b) 0 [s0, s1, s2, s3]).1) (befL (tr ps (fOf d b) 0 [s0, s1, s2, s3]).1) = cv s (doneL acc) (befL acc) by rw [HT1.out, HT2.out, hn1, hn2, List.append_nil])
          have HC := Lib.hid hR.bc
          have HRr := Lib.hid hR.br
          have HI := Lib.hid (info_cr' (b := befL acc) hsok.1 (doneL_length acc) (befL_length acc))
          have HZ := Lib.hid (cv_size (b := befL acc) hsok.1 (doneL_length acc) (befL_length acc))
          clear hn1 hn2
          go_wp2_with (first | (refine wpList_load_row rfl 154 (.tmp 8) rfl C rfl 154 _ (0, 0) _ HC.out Tryz.underlying154 rfl HI.out ?_) | (refine wpList_store_row rfl 154 (.tmp 6) (.tmp 87) rfl R _ rfl rfl 154 _ HRr.out HI.out (by rw [HZ.out]; rfl) (cv_one _ _ _) ?_))
          have K := hp_row_same HRr.out (cv s (doneL acc) (befL acc))
          refine bodyPost_ret (v := .agg (cv s (doneL acc) (befL acc))) ?_ rfl ⟨by rw [HE.out], below_setRow hR.below hR.lt.2.2.2.1 _⟩
          exact results_cell_row (p := 6) (ty := 154) rfl _ _ R 154 _ (0, 0) _ (by simp [Act.put]) K Tryz.underlying154 rfl HI.out

end Go.Proofs.YtikblaebfpdngaaGreat
