/- Do, Inverse of the document's side (patches): contracts. -/
import Derived.Test.YtigaklppdlknkaaRv4
import Derived.Test.YtigaklppdlknkaaPtY
import Derived.Test.YtigaklppdlknkaaRefB
set_option linter.unusedVariables false
set_option linter.unusedSimpArgs false
namespace Go.Proofs.Ytigaklppdlknkaa
open Go.RowKit Tinker

/-- Whether all places are lines, for the document's side: codes. -/
def plcC (ps : List L) (xs : List E) : Int := if xs.all (fun e => decide (e.at_ < (ps.length : Int))) then 0 else 4
set_option maxHeartbeats 1000000 in
theorem placed_any (a g : Option Addr) (ca cg : Nat) (n : Nat) (ps : List L) (hn : ps.length = n) (xs : List E) (w : World) (hx : EditsAt w g xs) (hm : xs.length ≤ 1000) :
    Calls Try.prog 135 #[.slice a n ca, .slice g xs.length cg] w fun e w' => e = .returned (.int .i64 (plcC ps xs)) ∧ w = w' := by
  subst hn
  have HP := Lib.hid (show plcC ps xs = if xs.all (fun e => decide (e.at_ < (ps.length : Int))) then 0 else 4 from rfl)
  generalize plcC ps xs = r at HP ⊢
  generalize ps.length = n at HP ⊢
  go_enter Try.func135, Try.ntmps135
  go_wp2_with fail
  go_loop [5] (fun s5 => ∃ k : Nat, k ≤ xs.length ∧ s5 = .int .i64 k ∧ (xs.take k).all (fun e => decide (e.at_ < (n : Int))) = true) (fun s5 => xs.length - (intOf s5).toNat)
  case atStart => exact ⟨0, Nat.zero_le _, rfl, by simp⟩
  case round =>
    obtain ⟨k, hk, rfl, hall⟩ := hrel
    have HA := Lib.hid hall
    clear hall
    by_cases hlt : k < xs.length
    · obtain ⟨b, off, e, rfl, hlb, he, c0, c1, c2, c3, c4⟩ := hx.at_ hlt
      have HE := Lib.hid he
      by_cases h1 : e.at_ < (n : Int)
      · have HF := Lib.hid (show decide (e.at_ < (n : Int)) = true from decide_eq_true h1)
        clear he hx
        go_wp2
        go_round
        case rel => exact ⟨k + 1, by omega, by go_num, all_snoc HA.out HE.out HF.out⟩
        case measure => simp [intOf]; omega
      · have HR := Lib.hid (show r = 4 by rw [HP.out, all_not HE.out (decide_eq_false h1)]; rfl)
        have h2 : (n : Int) ≤ e.at_ := by omega
        clear he hx
        go_wp2
        go_ret
        exact ⟨ret_int HR.out.symm, rfl⟩
    · have HR := Lib.hid (show r = 0 by rw [HP.out, all_whole HA.out hlt]; rfl)
      go_wp2
      go_ret
      exact ⟨ret_int HR.out.symm, rfl⟩
theorem plc_vpx {ps : List L} {xs : List E} (h : fe (vp ps) (vx xs) = 0) : vpx ps xs 0 = plcC ps xs := by
  obtain ⟨h1, h2⟩ := fe_0 h
  unfold vpx plcC
  rw [h]
  rw [if_pos (show fe (0 : Int) 0 = 0 from rfl)]
  have h3 := (vx_ok h2).2.2
  have : allBtw (pl xs) 0 ((ps.length : Int) - 1) = xs.all (fun e => decide (e.at_ < (ps.length : Int))) := by
    unfold allBtw pl
    rw [List.all_map, Bool.eq_iff_iff, List.all_eq_true, List.all_eq_true]
    constructor
    · intro h e he
      have := btw_true.1 (h e he)
      exact decide_eq_true (by omega)
    · intro h e he
      have := of_decide_eq_true (h e he)
      have := h3 e he
      exact btw_true.2 (by omega)
  rw [this]

set_option maxRecDepth 100000 in
set_option maxHeartbeats 1000000 in
theorem both_any (a g : Option Addr) (ca cg : Nat) (ps : List L) (xs : List E) (w : World) (hp : LinesAt w a ps) (hx : EditsAt w g xs) (hm : xs.length ≤ 1000) :
    Calls Try.prog 74 #[.slice a ps.length ca, .slice g xs.length cg] w fun e w' => e = .returned (.int .i64 (vpx ps xs 0)) ∧ Below w.heap.size w w' := by
  have H1 := Lib.hid (fun w hp => rValidate_any a ca ps w hp)
  have H2 := Lib.hid (fun w hx => rVal4_any g cg xs w hx hm)
  have H3 := Lib.hid (fun w hx => placed_any a g ca cg ps.length ps rfl xs w hx hm)
  by_cases z1 : vp ps = 0
  · by_cases z2 : vx xs = 0
    · have HV := Lib.hid (plc_vpx (ps := ps) (xs := xs) (by rw [z1, z2]; rfl))
      rw [HV.out]
      rw [z1] at H1
      rw [z2] at H2
      clear z1 z2 HV
      generalize plcC ps xs = c at H3 ⊢
      go_enter Try.func74, Try.ntmps74
      go_wp2_with fail
      refine (H1.out _ hp).mono ?_
      rintro e w1 ⟨rfl, hB1⟩
      have HB1 := Lib.hid hB1
      clear hB1
      go_wp2_with fail
      refine (H2.out _ (hx.below HB1.out (Nat.le_refl _))).mono ?_
      rintro e w2 ⟨rfl, hB2⟩
      have HB2 := Lib.hid (HB1.out.trans (hB2.mono HB1.out.size))
      clear hB2
      go_wp2_with fail
      refine (H3.out _ (hx.below HB2.out (Nat.le_refl _))).mono ?_
      rintro e w3 ⟨rfl, rfl⟩
      go_wp2_with fail
      go_ret
      exact ⟨rfl, HB2.out⟩
    · have HV := Lib.hid (show vpx ps xs 0 = vx xs by unfold vpx fe; simp [z1, z2])
      rw [HV.out]
      rw [z1] at H1
      generalize vx xs = c at H2 z2 ⊢
      have hz1 : (c != 0) = true := by simpa using z2
      have hz2 : (c == 0) = false := by simpa using z2
      clear z1 z2 HV
      go_enter Try.func74, Try.ntmps74
      go_wp2_with fail
      refine (H1.out _ hp).mono ?_
      rintro e w1 ⟨rfl, hB1⟩
      have HB1 := Lib.hid hB1
      clear hB1
      go_wp2_with fail
      refine (H2.out _ (hx.below HB1.out (Nat.le_refl _))).mono ?_
      rintro e w2 ⟨rfl, hB2⟩
      have HB2 := Lib.hid (HB1.out.trans (hB2.mono HB1.out.size))
      clear hB2
      go_wp2_with fail
      go_ret
      exact ⟨rfl, HB2.out⟩
  · have HV := Lib.hid (show vpx ps xs 0 = vp ps by unfold vpx fe; simp [z1])
    rw [HV.out]
    generalize vp ps = c at H1 z1 ⊢
    have hz1 : (c != 0) = true := by simpa using z1
    have hz2 : (c == 0) = false := by simpa using z1
    clear z1 HV
    go_enter Try.func74, Try.ntmps74
    go_wp2_with fail
    refine (H1.out _ hp).mono ?_
    rintro e w1 ⟨rfl, hB1⟩
    have HB1 := Lib.hid hB1
    clear hB1
    go_wp2_with fail
    go_ret
    exact ⟨rfl, HB1.out⟩

/-- done -/
theorem done_mark : True := trivial
set_option maxRecDepth 100000 in
set_option maxHeartbeats 2000000 in
theorem rdone_any (a g : Option Addr) (ca cg : Nat) (ps : List L) (xs : List E) (w : World) (hp : LinesAt w a ps) (hc : a = none → ca = 0) (hx : EditsAt w g xs) (h8 : ps.length ≤ 8) (h4 : xs.length ≤ 4) (hat : ∀ e ∈ xs, 0 ≤ e.at_ ∧ e.at_.toNat < ps.length) :
    Calls Try.prog 75 #[.slice a ps.length ca, .slice g xs.length cg] w (GivesLines (doL ps xs) w) := by
  obtain ⟨i0, hi, hz0, hz1, hz2⟩ := info_parts info_line
  have hown := World.ownsRow_lit (base := w.heap.size) (e := 40) (size := 4) w #[] 0 (Nat.le_refl _) (by simp [maxLen]) (by simp)
  have HAT := Lib.hid hat
  have HNone := Lib.hid (show a = none → ps = [] from fun e => by subst e; exact hp.none)
  clear hat
  go_enter Try.func75, Try.ntmps75
  go_upto_region 1 with fail
  go_cut [5] (fun s5 wx => wx.ownsRow w.heap.size 40 4 s5 ps.length (lc ps) ∧ Below w.heap.size w wx)
  case first =>
    cases a with
    | none =>
      have hps := HNone.out rfl
      have hc0 := hc rfl
      subst hps
      subst hc0
      clear hp hc hx HAT
      go_wp2_with (at_builtin; (refine wpList_append_own_none rfl (.tmp 7) (.tmp 8) 32 rfl w.heap.size 40 i0 4 Try.underlying32 hi _ 0 [] rfl hown rfl ?_))
      have HO := Lib.hid hown
      clear hown
      go_wp2_with fail
      go_meet
      exact ⟨HO.out, (Below.refl _ _).alloc (Nat.le_refl _) _⟩
    | some ad =>
      have HC := Lib.hid hp.cells
      clear hp hc hx HAT
      go_wp2_with (at_builtin; (refine wpList_append_own _ rfl (.tmp 7) (.tmp 8) 32 rfl w.heap.size 40 i0 (.agg #[.int .i64 0, .int .i64 0, .int .i64 0, .int .i64 0]) 4 32 Try.underlying32 hi hz0 hz1 hz2 rfl (by decide) _ 0 [] rfl hown ad ps.length ca (lc ps) rfl ?c1 ?c2 ?c3 ?c4 ?c5 ?c6 ?_))
      case c1 => exact lc_length ps
      case c2 => intro j u hu; exact cell_alloc_keep (HC.out j u hu)
      case c3 => exact lc_one ps
      case c4 => simp [maxLen]; omega
      case c5 => omega
      intro v' w1 hown1 hgrow _
      have HB := Lib.hid (show Below w.heap.size w w1 from ((Below.refl _ _).alloc (Nat.le_refl _) _).grown hgrow (by simp) (by rintro k hk; simp [Value.ownBlock] at hk; omega))
      have HO := Lib.hid (show w1.ownsRow w.heap.size 40 4 v' ps.length (lc ps) by simpa using hown1)
      clear hown1 hown hgrow
      go_wp2_with fail
      go_meet
      exact ⟨HO.out, HB.out⟩
  case rest =>
    obtain ⟨hO0, hB0⟩ := hcut
    obtain ⟨va, vc, rfl⟩ := own_slice hO0
    have HO0 := Lib.hid hO0
    have HB0 := Lib.hid hB0
    clear hO0 hB0 hp hc HNone hown
    go_wp2_with fail
    go_loopw [6] (fun s6 wr => ∃ k : Nat, k ≤ xs.length ∧ s6 = .int .i64 k ∧ wr.ownsRow w.heap.size 40 4 (.slice va ps.length vc) ps.length (lc (doL ps (xs.take k))) ∧ Below w.heap.size w wr) (fun s6 _ => xs.length - (intOf s6).toNat)
    case atStart => exact ⟨0, Nat.zero_le _, rfl, HO0.out, HB0.out⟩
    case round =>
      clear HO0 HB0
      obtain ⟨k, hk, rfl, hO, hB⟩ := hrel
      by_cases hlt : k < xs.length
      · obtain ⟨b, off, e, rfl, hlb, he, q0, q1, q2, q3, q4⟩ := hx.at_ hlt
        obtain ⟨a0, a1⟩ := HAT.out e (mem_of_get he)
        obtain ⟨g, rfl⟩ := own_form hO (by omega)
        have a2 : e.at_ < (ps.length : Int) := by omega
        have c0 := (hB.cell (p := ⟨b, _, none⟩) hlb).trans q0
        have c1 := (hB.cell (p := ⟨b, _, none⟩) hlb).trans q1
        have c2 := (hB.cell (p := ⟨b, _, none⟩) hlb).trans q2
        have c3 := (hB.cell (p := ⟨b, _, none⟩) hlb).trans q3
        have c4 := (hB.cell (p := ⟨b, _, none⟩) hlb).trans q4
        have hO1 := own_below hO (show Below wr.heap.size wr wr.drew from ⟨rfl, rfl, rfl, Nat.le_refl _, fun _ _ => rfl⟩) (Nat.le_refl _)
        have hlt2 : e.at_.toNat < (doL ps (xs.take k)).length := by rw [doL_len]; exact a1
        have HTh := Lib.hid (own_there hO1 hlt2)
        have HPL := Lib.hid (puts_line hO1 hlt2 e.ln hB.drew)
        have HOne := Lib.hid (one_line e.ln)
        have HE := Lib.hid (show doL ps (xs.take (k + 1)) = (doL ps (xs.take k)).set e.at_.toNat e.ln by rw [List.take_add_one, he]; exact doL_snoc _ _ _)
        clear he hO hO1 hB hlt2
        go_upto_region 5 with fail
        refine wp_region_held_drew (S := (fun w' => w'.cell? ⟨b, off + k * 5, none⟩ = some (.int .i64 e.at_) ∧ w'.cell? ⟨b, off + k * 5 + 1, none⟩ = some (.int .i64 e.ln.op) ∧ w'.cell? ⟨b, off + k * 5 + 2, none⟩ = some (.int .i64 e.ln.to) ∧ w'.cell? ⟨b, off + k * 5 + 3, none⟩ = some (.int .i64 e.ln.a) ∧ w'.cell? ⟨b, off + k * 5 + 4, none⟩ = some (.int .i64 e.ln.b))) (by kernel_rfl) ?_ (fun hHeld => ?_)
        · exact ⟨c0, c1, c2, c3, c4⟩
        refine wpAnyH_take (i := 0) (oi := ?oir00) (v := ?vr00) ?hir00 (by kernel_rfl) (by kernel_rfl) (by kernel_rfl) ?hqr00 ?hyr00 hHeld ?restr00
        case hir00 => exact rfl
        case hqr00 => exact fun _ _ _ h => h
        case hyr00 =>
          refine Or.inl ⟨by rfl, ?_⟩
          intro w hSw
          (try dsimp only at hSw)
          go_simp
          (try with_reducible rfl)
        try simp only [Act.put, List.getElem_toArray, List.getElem_cons_succ, List.getElem_cons_zero, List.setIfInBounds_toArray, List.set_cons_zero, List.set_cons_succ]
        refine wpAnyH_take (i := 1) (oi := ?oir01) (v := ?vr01) ?hir01 (by kernel_rfl) (by kernel_rfl) (by kernel_rfl) ?hqr01 ?hyr01 hHeld ?restr01
        case hir01 => exact rfl
        case hqr01 => exact fun _ _ _ h => h
        case hyr01 =>
          refine Or.inl ⟨by rfl, ?_⟩
          intro w hSw
          (try dsimp only at hSw)
          go_simp
          (try with_reducible rfl)
        try simp only [Act.put, List.getElem_toArray, List.getElem_cons_succ, List.getElem_cons_zero, List.setIfInBounds_toArray, List.set_cons_zero, List.set_cons_succ]
        refine wpAnyH_take (i := 2) (oi := ?oir02) (v := ?vr02) ?hir02 (by kernel_rfl) (by kernel_rfl) (by kernel_rfl) ?hqr02 ?hyr02 hHeld ?restr02
        case hir02 => exact rfl
        case hqr02 => exact fun _ _ _ h => h
        case hyr02 =>
          refine Or.inl ⟨by rfl, ?_⟩
          intro w hSw
          (try dsimp only at hSw)
          go_simp
          (try with_reducible rfl)
        try simp only [Act.put, List.getElem_toArray, List.getElem_cons_succ, List.getElem_cons_zero, List.setIfInBounds_toArray, List.set_cons_zero, List.set_cons_succ]
        refine wpAnyH_take (i := 3) (oi := ?oir03) (v := ?vr03) ?hir03 (by kernel_rfl) (by kernel_rfl) (by kernel_rfl) ?hqr03 ?hyr03 hHeld ?restr03
        case hir03 => exact rfl
        case hqr03 => exact fun _ _ _ h => h
        case hyr03 =>
          refine Or.inl ⟨by rfl, ?_⟩
          intro w hSw
          (try dsimp only at hSw)
          go_simp
          (try with_reducible rfl)
        try simp only [Act.put, List.getElem_toArray, List.getElem_cons_succ, List.getElem_cons_zero, List.setIfInBounds_toArray, List.set_cons_zero, List.set_cons_succ]
        refine wpAnyH_take (i := 4) (oi := ?oir04) (v := ?vr04) ?hir04 (by kernel_rfl) (by kernel_rfl) (by kernel_rfl) ?hqr04 ?hyr04 hHeld ?restr04
        case hir04 => exact rfl
        case hqr04 => exact fun _ _ _ h => h
        case hyr04 =>
          refine Or.inl ⟨by rfl, ?_⟩
          intro w hSw
          (try dsimp only at hSw)
          go_simp
          (try with_reducible rfl)
        try simp only [Act.put, List.getElem_toArray, List.getElem_cons_succ, List.getElem_cons_zero, List.setIfInBounds_toArray, List.set_cons_zero, List.set_cons_succ]
        refine wpAnyH_take (i := 5) (oi := ?oir05) (v := ?vr05) ?hir05 (by kernel_rfl) (by kernel_rfl) (by kernel_rfl) ?hqr05 ?hyr05 hHeld ?restr05
        case hir05 => exact rfl
        case hqr05 => exact fun _ _ _ h => h
        case hyr05 =>
          refine Or.inl ⟨by rfl, ?_⟩
          intro w hSw
          (try dsimp only at hSw)
          go_simp
          (try with_reducible rfl)
        try simp only [Act.put, List.getElem_toArray, List.getElem_cons_succ, List.getElem_cons_zero, List.setIfInBounds_toArray, List.set_cons_zero, List.set_cons_succ]
        refine wpAnyH_take (i := 6) (oi := ?oir06) (v := ?vr06) ?hir06 (by kernel_rfl) (by kernel_rfl) (by kernel_rfl) ?hqr06 ?hyr06 hHeld ?restr06
        case hir06 => exact rfl
        case hqr06 => exact fun _ _ _ h => h
        case hyr06 =>
          refine Or.inl ⟨by rfl, ?_⟩
          intro w hSw
          (try dsimp only at hSw)
          go_simp
          (try with_reducible rfl)
        try simp only [Act.put, List.getElem_toArray, List.getElem_cons_succ, List.getElem_cons_zero, List.setIfInBounds_toArray, List.set_cons_zero, List.set_cons_succ]
        refine wpAnyH_take (i := 7) (oi := ?oir07) (v := ?vr07) ?hir07 (by kernel_rfl) (by kernel_rfl) (by kernel_rfl) ?hqr07 ?hyr07 hHeld ?restr07
        case hir07 => exact rfl
        case hqr07 => exact fun _ _ _ h => h
        case hyr07 =>
          refine Or.inl ⟨by rfl, ?_⟩
          intro w hSw
          (try dsimp only at hSw)
          go_simp
          (try with_reducible rfl)
        try simp only [Act.put, List.getElem_toArray, List.getElem_cons_succ, List.getElem_cons_zero, List.setIfInBounds_toArray, List.set_cons_zero, List.set_cons_succ]
        refine wpAnyH_take (i := 8) (oi := ?oir08) (v := ?vr08) ?hir08 (by kernel_rfl) (by kernel_rfl) (by kernel_rfl) ?hqr08 ?hyr08 hHeld ?restr08
        case hir08 => exact rfl
        case hqr08 => exact fun _ _ _ h => h
        case hyr08 =>
          refine Or.inl ⟨by rfl, ?_⟩
          intro w hSw
          (try dsimp only at hSw)
          go_simp
          (try with_reducible rfl)
        try simp only [Act.put, List.getElem_toArray, List.getElem_cons_succ, List.getElem_cons_zero, List.setIfInBounds_toArray, List.set_cons_zero, List.set_cons_succ]
        refine wpAnyH_take (i := 9) (oi := ?oir09) (v := ?vr09) ?hir09 (by kernel_rfl) (by kernel_rfl) (by kernel_rfl) ?hqr09 ?hyr09 hHeld ?restr09
        case hir09 => exact rfl
        case hqr09 => exact fun _ _ _ h => h
        case hyr09 =>
          refine Or.inl ⟨by rfl, ?_⟩
          intro w hSw
          (try dsimp only at hSw)
          go_simp
          (try with_reducible rfl)
        try simp only [Act.put, List.getElem_toArray, List.getElem_cons_succ, List.getElem_cons_zero, List.setIfInBounds_toArray, List.set_cons_zero, List.set_cons_succ]
        refine wpAnyH_take (i := 10) (oi := ?oir10) (v := ?vr10) ?hir10 (by kernel_rfl) (by kernel_rfl) (by kernel_rfl) ?hqr10 ?hyr10 hHeld ?restr10
        case hir10 => exact rfl
        case hqr10 => exact fun _ _ _ h => h
        case hyr10 =>
          refine Or.inl ⟨by rfl, ?_⟩
          intro w hSw
          (try dsimp only at hSw)
          go_simp
          (try with_reducible rfl)
        try simp only [Act.put, List.getElem_toArray, List.getElem_cons_succ, List.getElem_cons_zero, List.setIfInBounds_toArray, List.set_cons_zero, List.set_cons_succ]
        refine wpAnyH_take (i := 11) (oi := ?oir11) (v := ?vr11) ?hir11 (by kernel_rfl) (by kernel_rfl) (by kernel_rfl) ?hqr11 ?hyr11 hHeld ?restr11
        case hir11 => exact rfl
        case hqr11 => exact fun _ _ _ h => h
        case hyr11 =>
          refine Or.inl ⟨by rfl, ?_⟩
          intro w hSw
          (try dsimp only at hSw)
          go_simp
          (try with_reducible rfl)
        try simp only [Act.put, List.getElem_toArray, List.getElem_cons_succ, List.getElem_cons_zero, List.setIfInBounds_toArray, List.set_cons_zero, List.set_cons_succ]
        refine wpAnyH_ready (rs := [12]) (by kernel_rfl) (by simp) ?_
        refine AllReadyH.cons (o := ?oo12) ?ho12 ?hk12 AllReadyH.nil
        case ho12 => exact rfl
        intro K hK
        rw [if_pos (by rfl)]
        refine wp_store_mid 40 (.tmp 27) (.tmp 26) rfl g (e.at_.toNat * 4) #[.int .i64 e.ln.op, .int .i64 e.ln.to, .int .i64 e.ln.a, .int .i64 e.ln.b] rfl rfl HTh.out info_ln HOne.out ?_
        refine hK.out _ _ ⟨(HPL.out.2.cell (p := ⟨b, _, none⟩) hlb).trans q0, (HPL.out.2.cell (p := ⟨b, _, none⟩) hlb).trans q1, (HPL.out.2.cell (p := ⟨b, _, none⟩) hlb).trans q2, (HPL.out.2.cell (p := ⟨b, _, none⟩) hlb).trans q3, (HPL.out.2.cell (p := ⟨b, _, none⟩) hlb).trans q4⟩ (fun hHeld2 => ?_)
        clear hK K hHeld hHeld2
        try simp only [Act.put, List.getElem_toArray, List.getElem_cons_succ, List.getElem_cons_zero, List.setIfInBounds_toArray, List.set_cons_zero, List.set_cons_succ]
        refine wpAnyH_done (by kernel_rfl) ?_ _
        go_wp2_with fail
        go_roundw
        case rel => exact ⟨k + 1, by omega, by go_num, by rw [HE.out]; exact HPL.out.1, HPL.out.2⟩
        case measure => simp [intOf]; omega
      · obtain rfl : k = xs.length := by omega
        rw [List.take_length] at hO
        have HO := Lib.hid hO
        have HB := Lib.hid hB
        clear hO hB
        go_wp2_with fail
        go_ret
        exact ⟨_, _, by rw [doL_len]; rfl, by rw [doL_len]; exact HO.out, HB.out⟩

set_option maxRecDepth 100000 in
set_option maxHeartbeats 1000000 in
theorem rDo4_any (a g : Option Addr) (ca cg : Nat) (ps : List L) (xs : List E) (w : World) (hp : LinesAt w a ps) (hc : a = none → ca = 0) (hx : EditsAt w g xs) (hm : xs.length ≤ 1000) :
    Calls Try.prog 22 #[.slice a ps.length ca, .slice g xs.length cg] w (GivesLinesE (doP ps xs) (vpx ps xs 0) w) := by
  have HV := Lib.hid (both_any a g ca cg ps xs w hp hx hm)
  by_cases hz : vpx ps xs 0 = 0
  · obtain ⟨h1, h2, h3⟩ := okX_at hz
    have HD := Lib.hid (fun w h h' => rdone_any a g ca cg ps xs w h hc h' h2 h3 h1)
    have HE := Lib.hid (show doP ps xs = doL ps xs by unfold doP; rw [if_pos hz])
    rw [HE.out, hz]
    rw [hz] at HV
    clear hz h1 h2 h3 HE hc
    go_enter Try.func22, Try.ntmps22
    go_wp2_with fail
    refine HV.out.mono ?_
    rintro e w1 ⟨rfl, hB⟩
    have HB := Lib.hid hB
    clear hB
    go_wp2_with fail
    refine (HD.out _ (hp.below HB.out (Nat.le_refl _)) (hx.below HB.out (Nat.le_refl _))).mono ?_
    intro e w2 hG
    obtain ⟨a2, c2, rfl, ho, hB2⟩ := hG.wide HB.out
    have HO := Lib.hid ho
    have HB2 := Lib.hid hB2
    clear hG ho hB2
    go_wp2_with fail
    go_ret2
    exact ⟨a2, c2, rfl, HO.out, HB2.out⟩
  · have HE := Lib.hid (show doP ps xs = [] by unfold doP; rw [if_neg hz])
    rw [HE.out]
    generalize vpx ps xs 0 = c at HV hz ⊢
    have hz1 : (c != 0) = true := by simpa using hz
    have hz2 : (c == 0) = false := by simpa using hz
    clear hz HE hc
    go_enter Try.func22, Try.ntmps22
    go_wp2_with fail
    refine HV.out.mono ?_
    rintro e w1 ⟨rfl, hB⟩
    have HB := Lib.hid hB
    clear hB
    go_wp2_with fail
    go_ret2
    exact givesLinesE_nil HB.out

end Go.Proofs.Ytigaklppdlknkaa
