/- Force of package code: contract. -/
import Derived.Test.YtigaklppdlknkaaGreatForB
set_option linter.unusedVariables false
set_option linter.unusedSimpArgs false
namespace Go.Proofs.YtigaklppdlknkaaGreat
open Go.RowKit Tinker

def isK (ls : List Int) : Nat → List Bool
  | 0 => List.replicate 8 false
  | k + 1 => (isK ls k).set (ls.getD k 0).toNat true
def valK (ls vs : List Int) : Nat → List Int
  | 0 => List.replicate 8 0
  | k + 1 => (valK ls vs k).set (ls.getD k 0).toNat (vs.getD k 0)
theorem isK_length (ls : List Int) : ∀ k, (isK ls k).length = 8
  | 0 => rfl
  | k + 1 => by unfold isK; rw [List.length_set]; exact isK_length ls k
theorem valK_length (ls vs : List Int) : ∀ k, (valK ls vs k).length = 8
  | 0 => rfl
  | k + 1 => by unfold valK; rw [List.length_set]; exact valK_length ls vs k
theorem fOf_K {ls vs : List Int} (h : ∀ n ∈ ls, 0 ≤ n ∧ n ≤ 7) : ∀ (k : Nat) (i : Nat), k ≤ ls.length → fOf (isK ls k) (valK ls vs k) i = fLk ls vs k i
  | 0, i, hk => by
    unfold fOf isK valK fLk
    rw [rep_get]; rfl
  | k + 1, i, hk => by
    obtain ⟨x, hx⟩ := get_of_lt (show k < ls.length by omega)
    have hb := h x (mem_of_get hx)
    have ih := fOf_K (vs := vs) h k i (by omega)
    unfold fLk
    unfold fOf isK valK
    rw [getD_of_get hx, getD_set _ _ _ _ _ (by rw [isK_length]; omega), getD_set _ _ _ _ _ (by rw [valK_length]; omega)]
    by_cases e : x.toNat = i
    · rw [if_pos e, if_pos e, if_pos rfl, if_pos (show x = (i : Int) by omega)]
    · rw [if_neg e, if_neg e, if_neg (show ¬ x = (i : Int) by omega), ← ih]; rfl
theorem fOf_all {ls vs : List Int} (h : ∀ n ∈ ls, 0 ≤ n ∧ n ≤ 7) : fOf (isK ls ls.length) (valK ls vs ls.length) = fL ls vs := by
  funext i
  exact fOf_K h ls.length i (Nat.le_refl _)
theorem fv_set1 {d : List Bool} {b : List Int} {n : Nat} (h : n < d.length) (x : Bool) : (fv d b).setIfInBounds n (.bool x) = fv (d.set n x) b := by
  simp [fv, List.set_append, h, List.map_set]
theorem fv_set2 {d : List Bool} {b : List Int} {n : Nat} (h : d.length = 8) (x : Int) : (fv d b).setIfInBounds (8 + n) (.int .i64 x) = fv d (b.set n x) := by
  simp [fv, List.set_append, h, List.map_set]
theorem fvK_step {w : World} {F : Nat} {ls vs : List Int} {k : Nat} {n v : Int} (h : w.heap[F]? = some (.cells (fv (isK ls k) (valK ls vs k)) 173 (0, 0))) (hn : ls[k]? = some n) (hv : vs[k]? = some v) (h0 : n.toNat < 8) :
    ((w.setCell ⟨F, n.toNat, none⟩ (.bool true)).setCell ⟨F, 8 + n.toNat, none⟩ (.int .i64 v)).heap[F]? = some (.cells (fv (isK ls (k + 1)) (valK ls vs (k + 1))) 173 (0, 0)) := by
  have q := hp_put (hp_put h n.toNat (.bool true)) (8 + n.toNat) (.int .i64 v)
  rw [fv_set1 (by rw [isK_length]; omega), fv_set2 (by rw [List.length_set, isK_length])] at q
  unfold isK valK
  rw [getD_of_get hn, getD_of_get hv]
  exact q
theorem fvK_step' {w : World} {F : Nat} {ls vs : List Int} {k : Nat} {n v : Int} (h : w.heap[F]? = some (.cells (fv (isK ls k) (valK ls vs k)) 173 (0, 0))) (hn : ls[k]? = some n) (hv : vs[k]? = some v) (h0 : n.toNat < 8) :
    ((w.setCell ⟨F, 8 + n.toNat, none⟩ (.int .i64 v)).setCell ⟨F, n.toNat, none⟩ (.bool true)).heap[F]? = some (.cells (fv (isK ls (k + 1)) (valK ls vs (k + 1))) 173 (0, 0)) := by
  have q := hp_put (hp_put h (8 + n.toNat) (.int .i64 v)) n.toNat (.bool true)
  rw [fv_set2 (isK_length _ _), fv_set1 (by rw [isK_length]; omega)] at q
  unfold isK valK
  rw [getD_of_get hn, getD_of_get hv]
  exact q

/-- The memory of what is forced. -/
structure FcI (F : Nat) (ls vs : List Int) (k : Nat) (w W : World) : Prop where
  bf : W.heap[F]? = some (.cells (fv (isK ls k) (valK ls vs k)) 173 (0, 0))
  below : Below w.heap.size w W

theorem FcI.drew {F : Nat} {ls vs : List Int} {k : Nat} {w W : World} (h : FcI F ls vs k w W) : FcI F ls vs k w W.drew := ⟨hp_drew h.bf, h.below.drew⟩
theorem FcI.low {F : Nat} {ls vs : List Int} {k : Nat} {w W W' : World} (h : FcI F ls vs k w W) (hb : Below W.heap.size W W') : FcI F ls vs k w W' := ⟨hp_below h.bf hb (hp_lt h.bf), h.below.trans (hb.mono h.below.size)⟩
theorem FcI.alloc {F : Nat} {ls vs : List Int} {k : Nat} {w W : World} (h : FcI F ls vs k w W) (o : Obj) : FcI F ls vs k w (W.alloc o) := h.low ((Below.refl _ _).alloc (Nat.le_refl _) o)
theorem fv_size {d : List Bool} {b : List Int} (hd : d.length = 8) (hb : b.length = 8) : (fv d b).size = 16 := by simp [fv, hd, hb]
theorem info_fc : (Tryz.prog.info? 173).map (·.size) = some 16 := by kernel_rfl

theorem exec_load_row {w : World} (ev : Operand → Value) (o : Oper) (ty : TypeId) (x : Operand) (ho : o.op = .load ty x) (g : Nat) (hx : ev x = .pointer (some ⟨g, 0, none⟩)) {cs : Array Value}
    (h : (Go.loadVar ty ⟨g, 0, none⟩).run Tryz.prog w = .ok (.agg cs) w) : (execOp ev o).run Tryz.prog w = .ok (.value (.agg cs)) w := by
  simp only [execOp, ho, hx, Instr.loadAt, Instr.sureAddr, Sem.run_bind, Sem.run_pure, Result.andThen_ok, h]

set_option maxRecDepth 100000 in
set_option maxHeartbeats 4000000 in
theorem force_any (a b c d : Option Addr) (ca cb cc cd : Nat) (ps : List L) (s ls vs : List Int) (w : World) (hp : LinesAt w a ps) (hs : IntsAt w b s) (hl : IntsAt w c ls) (hv : IntsAt w d vs) (hm0 : s.length ≤ 1000) (hm : ls.length ≤ 1000) (hm2 : vs.length ≤ 1000) :
    Calls Tryz.prog 107 #[.slice a ps.length ca, .slice b s.length cb, .slice c ls.length cc, .slice d vs.length cd] w (GivesIntsE (fA ps s ls vs) (fC ps s ls vs) w) := by
  have HV := Lib.hid (validateRun_any a b ca cb ps s w hp hs (by omega))
  by_cases hz : vr ps s = 0
  · have h8 := (vp_ok (vr_ok hz).1).1
    have hli := (vp_ok (vr_ok hz).1).2
    have hok := vs_ok (vr_ok hz).2
    have HZ := Lib.hid hz
    have HF := Lib.hid (fC_vr (ls := ls) (vs := vs) hz)
    have HVF := Lib.hid (fun w hp hl hv => validateForced_any a c d ca cc cd ps ls vs w hp hl hv h8 hli hm hm2)
    by_cases hf : fcC ps ls vs = 0
    · obtain ⟨h1, h2, h3, h4, h5⟩ := fcC_ok hf
      have hb7 : ∀ n ∈ ls, 0 ≤ n ∧ n ≤ 7 := fun n hn => by have := allBtw_at h2 hn; omega
      have HB7 := Lib.hid hb7
      have HFo := Lib.hid (fOf_all (vs := vs) hb7)
      have HS := Lib.hid (fun w hs => stateOf_any b cb s w hok.1 hs)
      have HW := Lib.hid (fun w hp => follow_any a ca ps s (isK ls ls.length) (valK ls vs ls.length) w hp h8 hli hok (isK_length _ _) (valK_length _ _ _) (by rw [fOf_all hb7]; exact fL_okF hf))
      have HE := Lib.hid (HF.out.trans hf)
      have HEA := Lib.hid (fA_yes HE.out)
      have HOK := Lib.hid (fA_ok HE.out).1
      have HOK0 := Lib.hid (show (tr ps (fL ls vs) 0 s).2.length = 4 by rw [← HEA.out]; exact HOK.out)
      have HGc := Lib.hid (fun w e w' (h : GivesCourse ps (fOf (isK ls ls.length) (valK ls vs ls.length)) s w e w') => (by rw [HFo.out] at h; exact h : GivesCourse ps (fL ls vs) s w e w'))
      have H3 := Lib.hid h3
      rw [hf] at HVF
      rw [HE.out]
      clear hz hok hf h1 h2 h3 h4 h5 hb7
      go_enter Tryz.func107, Tryz.ntmps107
      go_wp2_with fail
      refine HV.out.mono ?_
      rintro e w1 ⟨rfl, hB1⟩
      rw [HZ.out]
      go_wp2_with fail
      refine (HVF.out _ (hp.below hB1 (Nat.le_refl _)) (hl.below hB1 (Nat.le_refl _)) (hv.below hB1 (Nat.le_refl _))).mono ?_
      rintro e w2 ⟨rfl, hB2⟩
      have hB := hB1.trans (hB2.mono hB1.size)
      clear hB1 hB2
      go_wp2_with fail
      go_loopw [31] (fun s31 wr => ∃ k : Nat, k ≤ ls.length ∧ s31 = .int .i64 k ∧ FcI w2.heap.size ls vs k w wr) (fun s31 _ => ls.length - (intOf s31).toNat)
      case atStart => exact ⟨0, Nat.zero_le _, rfl, hp_new rfl, hB.alloc hB.size _⟩
      case round =>
        have hsz := hB.size
        clear hB
        obtain ⟨k, hk, rfl, hI⟩ := hrel
        by_cases hlt : k < ls.length
        · obtain ⟨lb, lo, n, rfl, hlb, hn, n0⟩ := (hl.below hI.below (Nat.le_refl _)).at_ hlt
          obtain ⟨vb, vo, v, rfl, hvb, hvv, v0'⟩ := hv.at_ (show k < vs.length by rw [← H3.out]; exact hlt)
          have v0 := (hI.below.cell (p := ⟨vb, vo + k, none⟩) hvb).trans v0'
          have ne1 : ¬ vb = w2.heap.size := by omega
          have ne2 : ¬ w2.heap.size = vb := by omega
          clear v0'
          obtain ⟨q0, q1⟩ := HB7.out n (mem_of_get hn)
          have q2 : n < 8 := by omega
          have q3 : (k : Int) < (vs.length : Int) := by rw [← H3.out]; omega
          have q4 : (0 : Int) ≤ (k : Int) := by omega
          have f1 := hp_cell hI.bf (fv_get1 (n := n.toNat) (b := valK ls vs k) (show n.toNat < (isK ls k).length by rw [isK_length]; omega))
          have f2 := hp_cell hI.bf (fv_get2 (n := n.toNat) (isK_length ls k) (show n.toNat < (valK ls vs k).length by rw [valK_length]; omega))
          have f3 := hp_free hI.bf n.toNat
          have f4 := hp_free hI.bf (8 + n.toNat)
          have HN := Lib.hid hn
          have HVV := Lib.hid hvv
          have HI := Lib.hid hI
          clear hn hvv hI
          go_wp2_with fail
          go_region
          all_goals go_wp2_with fail
          all_goals go_roundw
          case rel => exact ⟨k + 1, by omega, by go_num, FcI.drew ⟨fvK_step HI.out.bf HN.out HVV.out (by omega), (HI.out.below.setCell (p := ⟨w2.heap.size, _, none⟩) hsz _).setCell (p := ⟨w2.heap.size, _, none⟩) hsz _⟩⟩
          case measure => simp [intOf]; omega
        · have hk' : k = ls.length := by omega
          subst hk'
          generalize w2.heap.size = F at hI hsz
          have HIn := Lib.hid (info_cr' (b := befL (tr ps (fL ls vs) 0 s).1) HOK0.out (doneL_length (tr ps (fL ls vs) 0 s).1) (befL_length _))
          have HSz := Lib.hid (cv_size (b := befL (tr ps (fL ls vs) 0 s).1) HOK0.out (doneL_length (tr ps (fL ls vs) 0 s).1) (befL_length _))
          go_upto_region 13 with fail
          go_cut [15] (fun s15 wx => ∃ C : Nat, s15 = .pointer (some ⟨C, 0, none⟩) ∧ wx.heap[C]? = some (.cells (cv (tr ps (fL ls vs) 0 s).2 (doneL (tr ps (fL ls vs) 0 s).1) (befL (tr ps (fL ls vs) 0 s).1)) 178 (0, 0)) ∧ Below w.heap.size w wx)
          case first =>
            refine wp_region_held_drew (S := FcI F ls vs ls.length w) (by kernel_rfl) ?_ (fun hHeld => ?_)
            · exact hI.drew
            refine wpAnyH_take (i := 0) (oi := ?oi00) (v := ?v00) ?hi00 (by kernel_rfl) (by kernel_rfl) (by kernel_rfl) ?hq00 ?hy00 hHeld ?rest00
            case hi00 => exact rfl
            case hq00 => exact fun _ _ _ h => h
            case hy00 =>
              refine Or.inl ⟨by rfl, ?_⟩
              intro w hSw
              go_simp
              (try with_reducible rfl)
            try simp only [Act.put, List.getElem_toArray, List.getElem_cons_succ, List.getElem_cons_zero, List.setIfInBounds_toArray, List.set_cons_zero, List.set_cons_succ]
            refine wpAnyH_take (i := 1) (oi := ?oi01) (v := ?v01) ?hi01 (by kernel_rfl) (by kernel_rfl) (by kernel_rfl) ?hq01 ?hy01 hHeld ?rest01
            case hi01 => exact rfl
            case hq01 => exact fun _ _ _ h => h
            case hy01 =>
              refine Or.inl ⟨by rfl, ?_⟩
              intro w hSw
              go_simp
              (try with_reducible rfl)
            try simp only [Act.put, List.getElem_toArray, List.getElem_cons_succ, List.getElem_cons_zero, List.setIfInBounds_toArray, List.set_cons_zero, List.set_cons_succ]
            refine wpAnyH_take (i := 3) (oi := ?oi03) (v := .agg (fv (isK ls ls.length) (valK ls vs ls.length))) ?hi03 (by kernel_rfl) (by kernel_rfl) (by kernel_rfl) ?hq03 ?hy03 hHeld ?rest03
            case hi03 => exact rfl
            case hq03 => exact fun _ _ _ h => h
            case hy03 =>
              refine Or.inl ⟨by rfl, ?_⟩
              intro w hSw
              exact exec_load_row _ _ 173 (.tmp 12) rfl F rfl (run_loadVar_row w F 173 173 _ (0, 0) _ hSw.bf Tryz.underlying173 rfl (by rw [info_fc, fv_size (isK_length _ _) (valK_length _ _ _)]))
            try simp only [Act.put, List.getElem_toArray, List.getElem_cons_succ, List.getElem_cons_zero, List.setIfInBounds_toArray, List.set_cons_zero, List.set_cons_succ]
            refine wpAnyH_ready (rs := [2, 5]) (by kernel_rfl) (by simp) ?_
            refine AllReadyH.cons (o := ?oz2) ?hz2 ?kz2 (AllReadyH.cons (o := ?oz5) ?hz5 ?kz5 AllReadyH.nil)
            case hz2 => exact rfl
            case hz5 => exact rfl
            case kz2 =>
              intro K hK
              go_simp
              refine (HS.out _ (hs.below hHeld.below (Nat.le_refl _))).mono ?_
              rintro e wz2 ⟨rfl, hBz⟩
              refine hK.out _ _ (hHeld.low hBz) (fun hHeld => ?_)
              clear hK K
              try simp only [Act.put, List.getElem_toArray, List.getElem_cons_succ, List.getElem_cons_zero, List.setIfInBounds_toArray, List.set_cons_zero, List.set_cons_succ]
              refine wpAnyH_ready (rs := [4, 5]) (by kernel_rfl) (by simp) ?_
              refine AllReadyH.cons (o := ?oz24) ?hz24 ?kz24 (AllReadyH.cons (o := ?oz25) ?hz25 ?kz25 AllReadyH.nil)
              case hz24 => exact rfl
              case hz25 => exact rfl
              case kz24 =>
                intro K hK
                go_simp
                refine (HW.out _ (hp.below hHeld.below (Nat.le_refl _))).mono ?_
                intro e wz24 hG
                obtain ⟨rfl, hBz2⟩ := HGc.out _ _ _ hG
                refine hK.out _ _ (hHeld.low hBz2) (fun hHeld => ?_)
                clear hK K
                try simp only [Act.put, List.getElem_toArray, List.getElem_cons_succ, List.getElem_cons_zero, List.setIfInBounds_toArray, List.set_cons_zero, List.set_cons_succ]
                refine wpAnyH_ready (rs := [5]) (by kernel_rfl) (by simp) ?_
                refine AllReadyH.cons (o := ?oz245) ?hz245 ?kz245 AllReadyH.nil
                case hz245 => exact rfl
                case kz245 =>
                  intro K hK
                  go_simp
                  have hszz24 := hHeld.below.size
                  have hltz24 := hp_lt hHeld.bf
                  have hCz24 := hp_new (w := wz24) (o := Obj.cells cv0 178) rfl
                  refine hK.out _ _ (hHeld.alloc _) (fun hHeld => ?_)
                  clear hK K
                  try simp only [Act.put, List.getElem_toArray, List.getElem_cons_succ, List.getElem_cons_zero, List.setIfInBounds_toArray, List.set_cons_zero, List.set_cons_succ]
                  refine wpAnyH_ready (rs := [6]) (by kernel_rfl) (by simp) ?_
                  refine AllReadyH.cons (o := ?oz2456) ?hz2456 ?kz2456 AllReadyH.nil
                  case hz2456 => exact rfl
                  intro K hK
                  rw [if_pos (by rfl)]
                  have hC5 := hCz24
                  refine wp_store_row 178 (.tmp 15) (.tmp 51) rfl _ (cv (tr ps (fL ls vs) 0 s).2 (doneL (tr ps (fL ls vs) 0 s).1) (befL (tr ps (fL ls vs) 0 s).1)) rfl rfl 178 _ hC5 HIn.out (by rw [HSz.out]; rfl) (cv_one _ _ _) ?_
                  have hE := below_setRow hHeld.below (show w.heap.size ≤ _ from hszz24) (cv (tr ps (fL ls vs) 0 s).2 (doneL (tr ps (fL ls vs) 0 s).1) (befL (tr ps (fL ls vs) 0 s).1))
                  refine hK.out _ _ ⟨hp_row hHeld.bf (Nat.ne_of_lt hltz24) _, hE⟩ (fun hHeld2 => ?_)
                  clear hK K
                  try simp only [Act.put, List.getElem_toArray, List.getElem_cons_succ, List.getElem_cons_zero, List.setIfInBounds_toArray, List.set_cons_zero, List.set_cons_succ]
                  refine wpAnyH_done (by kernel_rfl) ?_ _
                  go_wp2_with fail
                  go_meet
                  exact ⟨_, rfl, hp_row_same hC5 _, hE⟩
              case kz25 =>
                intro K hK
                go_simp
                have hszz2 := hHeld.below.size
                have hltz2 := hp_lt hHeld.bf
                have hCz2 := hp_new (w := wz2) (o := Obj.cells cv0 178) rfl
                refine hK.out _ _ (hHeld.alloc _) (fun hHeld => ?_)
                clear hK K
                try simp only [Act.put, List.getElem_toArray, List.getElem_cons_succ, List.getElem_cons_zero, List.setIfInBounds_toArray, List.set_cons_zero, List.set_cons_succ]
                refine wpAnyH_ready (rs := [4]) (by kernel_rfl) (by simp) ?_
                refine AllReadyH.cons (o := ?oz254) ?hz254 ?kz254 AllReadyH.nil
                case hz254 => exact rfl
                case kz254 =>
                  intro K hK
                  go_simp
                  refine (HW.out _ (hp.below hHeld.below (Nat.le_refl _))).mono ?_
                  intro e wz254 hG
                  obtain ⟨rfl, hBz25⟩ := HGc.out _ _ _ hG
                  refine hK.out _ _ (hHeld.low hBz25) (fun hHeld => ?_)
                  clear hK K
                  try simp only [Act.put, List.getElem_toArray, List.getElem_cons_succ, List.getElem_cons_zero, List.setIfInBounds_toArray, List.set_cons_zero, List.set_cons_succ]
                  refine wpAnyH_ready (rs := [6]) (by kernel_rfl) (by simp) ?_
                  refine AllReadyH.cons (o := ?oz2546) ?hz2546 ?kz2546 AllReadyH.nil
                  case hz2546 => exact rfl
                  intro K hK
                  rw [if_pos (by rfl)]
                  have hC5 := (hp_below hCz2 hBz25 (hp_lt hCz2))
                  refine wp_store_row 178 (.tmp 15) (.tmp 51) rfl _ (cv (tr ps (fL ls vs) 0 s).2 (doneL (tr ps (fL ls vs) 0 s).1) (befL (tr ps (fL ls vs) 0 s).1)) rfl rfl 178 _ hC5 HIn.out (by rw [HSz.out]; rfl) (cv_one _ _ _) ?_
                  have hE := below_setRow hHeld.below (show w.heap.size ≤ _ from hszz2) (cv (tr ps (fL ls vs) 0 s).2 (doneL (tr ps (fL ls vs) 0 s).1) (befL (tr ps (fL ls vs) 0 s).1))
                  refine hK.out _ _ ⟨hp_row hHeld.bf (Nat.ne_of_lt hltz2) _, hE⟩ (fun hHeld2 => ?_)
                  clear hK K
                  try simp only [Act.put, List.getElem_toArray, List.getElem_cons_succ, List.getElem_cons_zero, List.setIfInBounds_toArray, List.set_cons_zero, List.set_cons_succ]
                  refine wpAnyH_done (by kernel_rfl) ?_ _
                  go_wp2_with fail
                  go_meet
                  exact ⟨_, rfl, hp_row_same hC5 _, hE⟩
            case kz5 =>
              intro K hK
              go_simp
              have hszz := hHeld.below.size
              have hltz := hp_lt hHeld.bf
              have hCz := hp_new (w := wr.drew) (o := Obj.cells cv0 178) rfl
              refine hK.out _ _ (hHeld.alloc _) (fun hHeld => ?_)
              clear hK K
              try simp only [Act.put, List.getElem_toArray, List.getElem_cons_succ, List.getElem_cons_zero, List.setIfInBounds_toArray, List.set_cons_zero, List.set_cons_succ]
              refine wpAnyH_ready (rs := [2]) (by kernel_rfl) (by simp) ?_
              refine AllReadyH.cons (o := ?oz52) ?hz52 ?kz52 AllReadyH.nil
              case hz52 => exact rfl
              case kz52 =>
                intro K hK
                go_simp
                refine (HS.out _ (hs.below hHeld.below (Nat.le_refl _))).mono ?_
                rintro e wz52 ⟨rfl, hBz5⟩
                refine hK.out _ _ (hHeld.low hBz5) (fun hHeld => ?_)
                clear hK K
                try simp only [Act.put, List.getElem_toArray, List.getElem_cons_succ, List.getElem_cons_zero, List.setIfInBounds_toArray, List.set_cons_zero, List.set_cons_succ]
                refine wpAnyH_ready (rs := [4]) (by kernel_rfl) (by simp) ?_
                refine AllReadyH.cons (o := ?oz524) ?hz524 ?kz524 AllReadyH.nil
                case hz524 => exact rfl
                case kz524 =>
                  intro K hK
                  go_simp
                  refine (HW.out _ (hp.below hHeld.below (Nat.le_refl _))).mono ?_
                  intro e wz524 hG
                  obtain ⟨rfl, hBz52⟩ := HGc.out _ _ _ hG
                  refine hK.out _ _ (hHeld.low hBz52) (fun hHeld => ?_)
                  clear hK K
                  try simp only [Act.put, List.getElem_toArray, List.getElem_cons_succ, List.getElem_cons_zero, List.setIfInBounds_toArray, List.set_cons_zero, List.set_cons_succ]
                  refine wpAnyH_ready (rs := [6]) (by kernel_rfl) (by simp) ?_
                  refine AllReadyH.cons (o := ?oz5246) ?hz5246 ?kz5246 AllReadyH.nil
                  case hz5246 => exact rfl
                  intro K hK
                  rw [if_pos (by rfl)]
                  have hC5 := (hp_below (hp_below hCz hBz5 (hp_lt hCz)) hBz52 (hp_lt (hp_below hCz hBz5 (hp_lt hCz))))
                  refine wp_store_row 178 (.tmp 15) (.tmp 51) rfl _ (cv (tr ps (fL ls vs) 0 s).2 (doneL (tr ps (fL ls vs) 0 s).1) (befL (tr ps (fL ls vs) 0 s).1)) rfl rfl 178 _ hC5 HIn.out (by rw [HSz.out]; rfl) (cv_one _ _ _) ?_
                  have hE := below_setRow hHeld.below (show w.heap.size ≤ _ from hszz) (cv (tr ps (fL ls vs) 0 s).2 (doneL (tr ps (fL ls vs) 0 s).1) (befL (tr ps (fL ls vs) 0 s).1))
                  refine hK.out _ _ ⟨hp_row hHeld.bf (Nat.ne_of_lt hltz) _, hE⟩ (fun hHeld2 => ?_)
                  clear hK K
                  try simp only [Act.put, List.getElem_toArray, List.getElem_cons_succ, List.getElem_cons_zero, List.setIfInBounds_toArray, List.set_cons_zero, List.set_cons_succ]
                  refine wpAnyH_done (by kernel_rfl) ?_ _
                  go_wp2_with fail
                  go_meet
                  exact ⟨_, rfl, hp_row_same hC5 _, hE⟩
          case rest =>
            obtain ⟨C, rfl, hC, hB⟩ := hcut
            have HC := Lib.hid hC
            clear hI hC
            go_wp2_with fail
            refine (cloneInts_any C 0 4 4 (tr ps (fL ls vs) 0 s).2 _ HOK0.out (by omega) (by omega) (cv_state HC.out) (hp_lt HC.out)).mono ?_
            intro e w4 hG
            obtain ⟨a', c', rfl, hown, hB7⟩ := hG.wide hB
            have HO := Lib.hid hown
            clear hown hG
            go_wp2_with fail
            go_ret2
            rw [HEA.out]
            exact ⟨a', c', rfl, HO.out, hB7⟩
    · have HE := Lib.hid (show fC ps s ls vs = fcC ps ls vs from HF.out)
      have HA := Lib.hid (fA_no (p := ps) (s := s) (ls := ls) (vs := vs) (by rw [HE.out]; exact hf))
      rw [HE.out, HA.out]
      generalize fcC ps ls vs = c0 at HVF hf
      have hz1 : (c0 != 0) = true := by simpa using hf
      have hz2 : (c0 == 0) = false := by simpa using hf
      clear hz hok hf HE HA HF
      go_enter Tryz.func107, Tryz.ntmps107
      go_wp2_with fail
      refine HV.out.mono ?_
      rintro e w1 ⟨rfl, hB1⟩
      rw [HZ.out]
      go_wp2_with fail
      refine (HVF.out _ (hp.below hB1 (Nat.le_refl _)) (hl.below hB1 (Nat.le_refl _)) (hv.below hB1 (Nat.le_refl _))).mono ?_
      rintro e w2 ⟨rfl, hB2⟩
      have hB := hB1.trans (hB2.mono hB1.size)
      go_wp2_with fail
      go_ret2
      exact givesIntsE_nil hB
  · have HE := Lib.hid (show fC ps s ls vs = vr ps s by unfold fC; rw [if_neg hz])
    have HA := Lib.hid (fA_no (p := ps) (s := s) (ls := ls) (vs := vs) (by rw [HE.out]; exact hz))
    rw [HE.out, HA.out]
    generalize vr ps s = c0 at HV hz
    have hz1 : (c0 != 0) = true := by simpa using hz
    have hz2 : (c0 == 0) = false := by simpa using hz
    clear hz hp hs hl hv HE HA
    go_enter Tryz.func107, Tryz.ntmps107
    go_wp2_with fail
    refine HV.out.mono ?_
    rintro e w1 ⟨rfl, hB1⟩
    go_wp2_with fail
    go_ret2
    exact givesIntsE_nil hB1

end Go.Proofs.YtigaklppdlknkaaGreat
