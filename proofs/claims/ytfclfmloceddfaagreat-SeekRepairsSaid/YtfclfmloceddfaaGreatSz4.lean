/- Several texts in one. -/
import Derived.Test.YtfclfmloceddfaaGreatPtW
import Derived.BigQuiet
import Derived.Deep.QuietTactic
import Derived.StillTailTactics
import Derived.Test.YtfclfmloceddfaaGreatPtZ
import Derived.Test.YtfclfmloceddfaaGreatRefC
import Derived.Test.YtfclfmloceddfaaGreatEdO
/- Validate of the document's side (patches): contract. -/
set_option linter.unusedVariables false
set_option linter.unusedSimpArgs false
namespace Tinker
theorem set_snoc {l : List Int} {x : Int} (h : isSetB l = true) (hx : ∀ y, l[l.length - 1]? = some y → y < x) : isSetB (l ++ [x]) = true := by
  rw [isSetB_iff] at h ⊢
  intro i hi
  rw [List.length_append, List.length_singleton] at hi
  by_cases h1 : i + 1 < l.length
  · have := h i h1
    rw [List.getD_eq_getElem?_getD, List.getD_eq_getElem?_getD] at this ⊢
    rwa [List.getElem?_append_left (by omega), List.getElem?_append_left (by omega)]
  · have h2 : i + 1 = l.length := by omega
    obtain ⟨y, hy⟩ := get_of_lt (show i < l.length by omega)
    have := hx y (by rw [show l.length - 1 = i by omega]; exact hy)
    rw [List.getD_eq_getElem?_getD, List.getD_eq_getElem?_getD, List.getElem?_append_left (by omega), hy, List.getElem?_append_right (by omega), h2]
    simpa using this
end Tinker
namespace Go.Proofs.YtfclfmloceddfaaGreat
open Go.RowKit Tinker

/-- The first k edits are as they must be. -/
def vxTo (xs : List E) (k : Nat) : Prop := isSetB (pl (xs.take k)) = true ∧ (xs.take k).all (fun e => btw e.at_ 0 7 && isLn e.ln) = true
theorem vxTo_step {xs : List E} {k : Nat} {e : E} (h : vxTo xs k) (he : xs[k]? = some e) (h1 : (btw e.at_ 0 7 && isLn e.ln) = true) (h2 : ∀ q e', k = q + 1 → xs[q]? = some e' → e'.at_ < e.at_) : vxTo xs (k + 1) := by
  have hk : k < xs.length := (List.getElem?_eq_some_iff.1 he).1
  refine ⟨?_, all_snoc h.2 he h1⟩
  rw [List.take_add_one, he]
  show isSetB (pl (xs.take k ++ [e])) = true
  have e1 : pl (xs.take k ++ [e]) = pl (xs.take k) ++ [e.at_] := by unfold pl; rw [List.map_append]; rfl
  rw [e1]
  refine set_snoc h.1 fun y hy => ?_
  rw [plLen, List.length_take, Nat.min_eq_left (by omega)] at hy
  unfold pl at hy
  rw [List.getElem?_map, Option.map_eq_some_iff] at hy
  obtain ⟨e', he', rfl⟩ := hy
  cases k with
  | zero => simp at he'
  | succ q =>
    refine h2 q e' rfl ?_
    rw [List.getElem?_take] at he'
    split at he'
    · simpa using he'
    · cases he'
theorem vx_row {xs : List E} {q : Nat} {e e' : E} (h4 : xs.length ≤ 4) (he' : xs[q]? = some e') (he : xs[q + 1]? = some e) (h : e.at_ ≤ e'.at_) : vx xs = 1 := by
  refine vx_set h4 (isSetB_no (k := q) (x := e'.at_) (y := e.at_) ?_ ?_ h)
  · unfold pl; rw [List.getElem?_map, he']; rfl
  · unfold pl; rw [List.getElem?_map, he]; rfl
theorem vx_el {xs : List E} {k : Nat} {e : E} (h4 : xs.length ≤ 4) (he : xs[k]? = some e) (h : (btw e.at_ 0 7 && isLn e.ln) = false) : vx xs = 1 :=
  vx_bad h4 (by rw [List.all_eq_false]; exact ⟨e, mem_of_get he, by rw [h]; simp⟩)

end Go.Proofs.YtfclfmloceddfaaGreat

/- Do, Inverse of the document's side (patches): contracts. -/
set_option linter.unusedVariables false
set_option linter.unusedSimpArgs false
namespace Go.Proofs.YtfclfmloceddfaaGreat
open Go.RowKit Tinker

/-- Whether all places are lines, for the document's side: codes. -/
def plcC (ps : List L) (xs : List E) : Int := if xs.all (fun e => decide (e.at_ < (ps.length : Int))) then 0 else 4
theorem plc_vpx {ps : List L} {xs : List E} (h : fe (vp ps) (vx xs) = 0) : vpx ps xs 0 = plcC ps xs := by
  obtain ⟨h1, h2⟩ := fe_0 h
  unfold vpx plcC
  rw [h]
  rw [if_pos (show fe (0 : Int) 0 = 0 from rfl)]
  have h3 := (vx_ok h2).2.2
  have : allBtw (pl xs) 0 ((ps.length : Int) - 1) = xs.all (fun e => decide (e.at_ < (ps.length : Int))) := by
    unfold allBtw pl
    rw [List.all_map, Bool.eq_iff_iff, List.all_eq_true, List.all_eq_true]
    constructor
    · intro h e he
      have := btw_true.1 (h e he)
      exact decide_eq_true (by omega)
    · intro h e he
      have := of_decide_eq_true (h e he)
      have := h3 e he
      exact btw_true.2 (by omega)
  rw [this]

/-- done -/
theorem done_mark : True := trivial
set_option maxRecDepth 100000 in
set_option maxHeartbeats 2000000 in
theorem rdone_any (a g : Option Addr) (ca cg : Nat) (ps : List L) (xs : List E) (w : World) (hp : LinesAt w a ps) (hc : a = none → ca = 0) (hx : EditsAt w g xs) (h8 : ps.length ≤ 8) (h4 : xs.length ≤ 4) (hat : ∀ e ∈ xs, 0 ≤ e.at_ ∧ e.at_.toNat < ps.length) :
    Calls Tryz.prog 66 #[.slice a ps.length ca, .slice g xs.length cg] w (GivesLines (doL ps xs) w) := by
  obtain ⟨i0, hi, hz0, hz1, hz2⟩ := info_parts info_line
  have hown := World.ownsRow_lit (base := w.heap.size) (e := 42) (size := 4) w #[] 0 (Nat.le_refl _) (by simp [maxLen]) (by simp)
  have HAT := Lib.hid hat
  have HNone := Lib.hid (show a = none → ps = [] from fun e => by subst e; exact hp.none)
  clear hat
  go_enter Tryz.func66, Tryz.ntmps66
  go_upto_region 1 with fail
  go_cut [5] (fun s5 wx => wx.ownsRow w.heap.size 42 4 s5 ps.length (lc ps) ∧ Below w.heap.size w wx)
  case first =>
    cases a with
    | none =>
      have hps := HNone.out rfl
      have hc0 := hc rfl
      subst hps
      subst hc0
      clear hp hc hx HAT
      go_wp2_with (at_builtin; (refine wpList_append_own_none rfl (.tmp 7) (.tmp 8) 22 rfl w.heap.size 42 i0 4 Tryz.underlying22 hi _ 0 [] rfl hown rfl ?_))
      have HO := Lib.hid hown
      clear hown
      go_wp2_with fail
      go_meet
      exact ⟨HO.out, (Below.refl _ _).alloc (Nat.le_refl _) _⟩
    | some ad =>
      have HC := Lib.hid hp.cells
      clear hp hc hx HAT
      go_wp2_with (at_builtin; (refine wpList_append_own _ rfl (.tmp 7) (.tmp 8) 22 rfl w.heap.size 42 i0 (.agg #[.int .i64 0, .int .i64 0, .int .i64 0, .int .i64 0]) 4 32 Tryz.underlying22 hi hz0 hz1 hz2 rfl (by decide) _ 0 [] rfl hown ad ps.length ca (lc ps) rfl ?c1 ?c2 ?c3 ?c4 ?c5 ?c6 ?_))
      case c1 => exact lc_length ps
      case c2 => intro j u hu; exact cell_alloc_keep (HC.out j u hu)
      case c3 => exact lc_one ps
      case c4 => simp [maxLen]; omega
      case c5 => omega
      intro v' w1 hown1 hgrow _
      have HB := Lib.hid (show Below w.heap.size w w1 from ((Below.refl _ _).alloc (Nat.le_refl _) _).grown hgrow (by simp) (by rintro k hk; simp [Value.ownBlock] at hk; omega))
      have HO := Lib.hid (show w1.ownsRow w.heap.size 42 4 v' ps.length (lc ps) by simpa using hown1)
      clear hown1 hown hgrow
      go_wp2_with fail
      go_meet
      exact ⟨HO.out, HB.out⟩
  case rest =>
    obtain ⟨hO0, hB0⟩ := hcut
    obtain ⟨va, vc, rfl⟩ := own_slice hO0
    have HO0 := Lib.hid hO0
    have HB0 := Lib.hid hB0
    clear hO0 hB0 hp hc HNone hown
    go_wp2_with fail
    go_loopw [6] (fun s6 wr => ∃ k : Nat, k ≤ xs.length ∧ s6 = .int .i64 k ∧ wr.ownsRow w.heap.size 42 4 (.slice va ps.length vc) ps.length (lc (doL ps (xs.take k))) ∧ Below w.heap.size w wr) (fun s6 _ => xs.length - (intOf s6).toNat)
    case atStart => exact ⟨0, Nat.zero_le _, rfl, HO0.out, HB0.out⟩
    case round =>
      clear HO0 HB0
      obtain ⟨k, hk, rfl, hO, hB⟩ := hrel
      by_cases hlt : k < xs.length
      · obtain ⟨b, off, e, rfl, hlb, he, q0, q1, q2, q3, q4⟩ := hx.at_ hlt
        obtain ⟨a0, a1⟩ := HAT.out e (mem_of_get he)
        obtain ⟨g, rfl⟩ := own_form hO (by omega)
        have a2 : e.at_ < (ps.length : Int) := by omega
        have c0 := (hB.cell (p := ⟨b, _, none⟩) hlb).trans q0
        have c1 := (hB.cell (p := ⟨b, _, none⟩) hlb).trans q1
        have c2 := (hB.cell (p := ⟨b, _, none⟩) hlb).trans q2
        have c3 := (hB.cell (p := ⟨b, _, none⟩) hlb).trans q3
        have c4 := (hB.cell (p := ⟨b, _, none⟩) hlb).trans q4
        have hO1 := own_below hO (show Below wr.heap.size wr wr.drew from ⟨rfl, rfl, rfl, Nat.le_refl _, fun _ _ => rfl⟩) (Nat.le_refl _)
        have hlt2 : e.at_.toNat < (doL ps (xs.take k)).length := by rw [doL_len]; exact a1
        have HTh := Lib.hid (own_there hO1 hlt2)
        have HPL := Lib.hid (puts_line hO1 hlt2 e.ln hB.drew)
        have HOne := Lib.hid (one_line e.ln)
        have HE := Lib.hid (show doL ps (xs.take (k + 1)) = (doL ps (xs.take k)).set e.at_.toNat e.ln by rw [List.take_add_one, he]; exact doL_snoc _ _ _)
        clear he hO hO1 hB hlt2
        go_upto_region 5 with fail
        refine wp_region_held_drew (S := (fun w' => w'.cell? ⟨b, off + k * 5, none⟩ = some (.int .i64 e.at_) ∧ w'.cell? ⟨b, off + k * 5 + 1, none⟩ = some (.int .i64 e.ln.op) ∧ w'.cell? ⟨b, off + k * 5 + 2, none⟩ = some (.int .i64 e.ln.to) ∧ w'.cell? ⟨b, off + k * 5 + 3, none⟩ = some (.int .i64 e.ln.a) ∧ w'.cell? ⟨b, off + k * 5 + 4, none⟩ = some (.int .i64 e.ln.b))) (by kernel_rfl) ?_ (fun hHeld => ?_)
        · exact ⟨c0, c1, c2, c3, c4⟩
        refine wpAnyH_take (i := 0) (oi := ?oir00) (v := ?vr00) ?hir00 (by kernel_rfl) (by kernel_rfl) (by kernel_rfl) ?hqr00 ?hyr00 hHeld ?restr00
        case hir00 => exact rfl
        case hqr00 => exact fun _ _ _ h => h
        case hyr00 =>
          refine Or.inl ⟨by rfl, ?_⟩
          intro w hSw
          (try dsimp only at hSw)
          go_simp
          (try with_reducible rfl)
        try simp only [Act.put, List.getElem_toArray, List.getElem_cons_succ, List.getElem_cons_zero, List.setIfInBounds_toArray, List.set_cons_zero, List.set_cons_succ]
        refine wpAnyH_take (i := 1) (oi := ?oir01) (v := ?vr01) ?hir01 (by kernel_rfl) (by kernel_rfl) (by kernel_rfl) ?hqr01 ?hyr01 hHeld ?restr01
        case hir01 => exact rfl
        case hqr01 => exact fun _ _ _ h => h
        case hyr01 =>
          refine Or.inl ⟨by rfl, ?_⟩
          intro w hSw
          (try dsimp only at hSw)
          go_simp
          (try with_reducible rfl)
        try simp only [Act.put, List.getElem_toArray, List.getElem_cons_succ, List.getElem_cons_zero, List.setIfInBounds_toArray, List.set_cons_zero, List.set_cons_succ]
        refine wpAnyH_take (i := 2) (oi := ?oir02) (v := ?vr02) ?hir02 (by kernel_rfl) (by kernel_rfl) (by kernel_rfl) ?hqr02 ?hyr02 hHeld ?restr02
        case hir02 => exact rfl
        case hqr02 => exact fun _ _ _ h => h
        case hyr02 =>
          refine Or.inl ⟨by rfl, ?_⟩
          intro w hSw
          (try dsimp only at hSw)
          go_simp
          (try with_reducible rfl)
        try simp only [Act.put, List.getElem_toArray, List.getElem_cons_succ, List.getElem_cons_zero, List.setIfInBounds_toArray, List.set_cons_zero, List.set_cons_succ]
        refine wpAnyH_take (i := 3) (oi := ?oir03) (v := ?vr03) ?hir03 (by kernel_rfl) (by kernel_rfl) (by kernel_rfl) ?hqr03 ?hyr03 hHeld ?restr03
        case hir03 => exact rfl
        case hqr03 => exact fun _ _ _ h => h
        case hyr03 =>
          refine Or.inl ⟨by rfl, ?_⟩
          intro w hSw
          (try dsimp only at hSw)
          go_simp
          (try with_reducible rfl)
        try simp only [Act.put, List.getElem_toArray, List.getElem_cons_succ, List.getElem_cons_zero, List.setIfInBounds_toArray, List.set_cons_zero, List.set_cons_succ]
        refine wpAnyH_take (i := 4) (oi := ?oir04) (v := ?vr04) ?hir04 (by kernel_rfl) (by kernel_rfl) (by kernel_rfl) ?hqr04 ?hyr04 hHeld ?restr04
        case hir04 => exact rfl
        case hqr04 => exact fun _ _ _ h => h
        case hyr04 =>
          refine Or.inl ⟨by rfl, ?_⟩
          intro w hSw
          (try dsimp only at hSw)
          go_simp
          (try with_reducible rfl)
        try simp only [Act.put, List.getElem_toArray, List.getElem_cons_succ, List.getElem_cons_zero, List.setIfInBounds_toArray, List.set_cons_zero, List.set_cons_succ]
        refine wpAnyH_take (i := 5) (oi := ?oir05) (v := ?vr05) ?hir05 (by kernel_rfl) (by kernel_rfl) (by kernel_rfl) ?hqr05 ?hyr05 hHeld ?restr05
        case hir05 => exact rfl
        case hqr05 => exact fun _ _ _ h => h
        case hyr05 =>
          refine Or.inl ⟨by rfl, ?_⟩
          intro w hSw
          (try dsimp only at hSw)
          go_simp
          (try with_reducible rfl)
        try simp only [Act.put, List.getElem_toArray, List.getElem_cons_succ, List.getElem_cons_zero, List.setIfInBounds_toArray, List.set_cons_zero, List.set_cons_succ]
        refine wpAnyH_take (i := 6) (oi := ?oir06) (v := ?vr06) ?hir06 (by kernel_rfl) (by kernel_rfl) (by kernel_rfl) ?hqr06 ?hyr06 hHeld ?restr06
        case hir06 => exact rfl
        case hqr06 => exact fun _ _ _ h => h
        case hyr06 =>
          refine Or.inl ⟨by rfl, ?_⟩
          intro w hSw
          (try dsimp only at hSw)
          go_simp
          (try with_reducible rfl)
        try simp only [Act.put, List.getElem_toArray, List.getElem_cons_succ, List.getElem_cons_zero, List.setIfInBounds_toArray, List.set_cons_zero, List.set_cons_succ]
        refine wpAnyH_take (i := 7) (oi := ?oir07) (v := ?vr07) ?hir07 (by kernel_rfl) (by kernel_rfl) (by kernel_rfl) ?hqr07 ?hyr07 hHeld ?restr07
        case hir07 => exact rfl
        case hqr07 => exact fun _ _ _ h => h
        case hyr07 =>
          refine Or.inl ⟨by rfl, ?_⟩
          intro w hSw
          (try dsimp only at hSw)
          go_simp
          (try with_reducible rfl)
        try simp only [Act.put, List.getElem_toArray, List.getElem_cons_succ, List.getElem_cons_zero, List.setIfInBounds_toArray, List.set_cons_zero, List.set_cons_succ]
        refine wpAnyH_take (i := 8) (oi := ?oir08) (v := ?vr08) ?hir08 (by kernel_rfl) (by kernel_rfl) (by kernel_rfl) ?hqr08 ?hyr08 hHeld ?restr08
        case hir08 => exact rfl
        case hqr08 => exact fun _ _ _ h => h
        case hyr08 =>
          refine Or.inl ⟨by rfl, ?_⟩
          intro w hSw
          (try dsimp only at hSw)
          go_simp
          (try with_reducible rfl)
        try simp only [Act.put, List.getElem_toArray, List.getElem_cons_succ, List.getElem_cons_zero, List.setIfInBounds_toArray, List.set_cons_zero, List.set_cons_succ]
        refine wpAnyH_take (i := 9) (oi := ?oir09) (v := ?vr09) ?hir09 (by kernel_rfl) (by kernel_rfl) (by kernel_rfl) ?hqr09 ?hyr09 hHeld ?restr09
        case hir09 => exact rfl
        case hqr09 => exact fun _ _ _ h => h
        case hyr09 =>
          refine Or.inl ⟨by rfl, ?_⟩
          intro w hSw
          (try dsimp only at hSw)
          go_simp
          (try with_reducible rfl)
        try simp only [Act.put, List.getElem_toArray, List.getElem_cons_succ, List.getElem_cons_zero, List.setIfInBounds_toArray, List.set_cons_zero, List.set_cons_succ]
        refine wpAnyH_take (i := 10) (oi := ?oir10) (v := ?vr10) ?hir10 (by kernel_rfl) (by kernel_rfl) (by kernel_rfl) ?hqr10 ?hyr10 hHeld ?restr10
        case hir10 => exact rfl
        case hqr10 => exact fun _ _ _ h => h
        case hyr10 =>
          refine Or.inl ⟨by rfl, ?_⟩
          intro w hSw
          (try dsimp only at hSw)
          go_simp
          (try with_reducible rfl)
        try simp only [Act.put, List.getElem_toArray, List.getElem_cons_succ, List.getElem_cons_zero, List.setIfInBounds_toArray, List.set_cons_zero, List.set_cons_succ]
        refine wpAnyH_take (i := 11) (oi := ?oir11) (v := ?vr11) ?hir11 (by kernel_rfl) (by kernel_rfl) (by kernel_rfl) ?hqr11 ?hyr11 hHeld ?restr11
        case hir11 => exact rfl
        case hqr11 => exact fun _ _ _ h => h
        case hyr11 =>
          refine Or.inl ⟨by rfl, ?_⟩
          intro w hSw
          (try dsimp only at hSw)
          go_simp
          (try with_reducible rfl)
        try simp only [Act.put, List.getElem_toArray, List.getElem_cons_succ, List.getElem_cons_zero, List.setIfInBounds_toArray, List.set_cons_zero, List.set_cons_succ]
        refine wpAnyH_ready (rs := [12]) (by kernel_rfl) (by simp) ?_
        refine AllReadyH.cons (o := ?oo12) ?ho12 ?hk12 AllReadyH.nil
        case ho12 => exact rfl
        intro K hK
        rw [if_pos (by rfl)]
        refine wp_store_mid 42 (.tmp 27) (.tmp 26) rfl g (e.at_.toNat * 4) #[.int .i64 e.ln.op, .int .i64 e.ln.to, .int .i64 e.ln.a, .int .i64 e.ln.b] rfl rfl HTh.out info_ln HOne.out ?_
        refine hK.out _ _ ⟨(HPL.out.2.cell (p := ⟨b, _, none⟩) hlb).trans q0, (HPL.out.2.cell (p := ⟨b, _, none⟩) hlb).trans q1, (HPL.out.2.cell (p := ⟨b, _, none⟩) hlb).trans q2, (HPL.out.2.cell (p := ⟨b, _, none⟩) hlb).trans q3, (HPL.out.2.cell (p := ⟨b, _, none⟩) hlb).trans q4⟩ (fun hHeld2 => ?_)
        clear hK K hHeld hHeld2
        try simp only [Act.put, List.getElem_toArray, List.getElem_cons_succ, List.getElem_cons_zero, List.setIfInBounds_toArray, List.set_cons_zero, List.set_cons_succ]
        refine wpAnyH_done (by kernel_rfl) ?_ _
        go_wp2_with fail
        go_roundw
        case rel => exact ⟨k + 1, by omega, by go_num, by rw [HE.out]; exact HPL.out.1, HPL.out.2⟩
        case measure => simp [intOf]; omega
      · obtain rfl : k = xs.length := by omega
        rw [List.take_length] at hO
        have HO := Lib.hid hO
        have HB := Lib.hid hB
        clear hO hB
        go_wp2_with fail
        go_ret
        exact ⟨_, _, by rw [doL_len]; rfl, by rw [doL_len]; exact HO.out, HB.out⟩

end Go.Proofs.YtfclfmloceddfaaGreat

/- Size and Clean of the document's side (patches): contracts. -/
set_option linter.unusedVariables false
set_option linter.unusedSimpArgs false
namespace Go.Proofs.YtfclfmloceddfaaGreat
open Go.RowKit Tinker

set_option maxRecDepth 100000 in
set_option maxHeartbeats 4000000 in
theorem fields_any (l m : L) (w : World) : Calls Tryz.prog 40 #[lv l, lv m] w fun e w' => e = .returned (.int .i64 (dsN l m)) ∧ Below w.heap.size w w' := by
  have HB := Lib.hid (show Below w.heap.size w ((w.alloc (.cells #[.int .i64 l.op, .int .i64 l.to, .int .i64 l.a, .int .i64 l.b] 42)).alloc (.cells #[.int .i64 m.op, .int .i64 m.to, .int .i64 m.a, .int .i64 m.b] 42)) from ((Below.refl _ _).alloc (Nat.le_refl _) _).alloc (by simp) _)
  have HD := Lib.hid (show dsN l m = b1 (l.op != m.op) + b1 (l.to != m.to) + b1 (l.a != m.a) + b1 (l.b != m.b) from rfl)
  unfold lv
  cases h0 : (l.op != m.op) <;> cases h1 : (l.to != m.to) <;> cases h2 : (l.a != m.a) <;> cases h3 : (l.b != m.b)
  all_goals rw [h0, h1, h2, h3] at HD
  all_goals go_enter Tryz.func40, Tryz.ntmps40
  all_goals go_wp2_with fail
  all_goals go_ret
  all_goals exact ⟨ret_int HD.out.symm, HB.out⟩

theorem sz_take' {ps : List L} {xs : List E} {k : Nat} {e : E} {l : L} (he : xs[k]? = some e) (hl : ps[e.at_.toNat]? = some l) : szL ps (xs.take (k + 1)) = szL ps (xs.take k) + dsN l e.ln := by
  rw [sz_take he hl, dsN_comm]

theorem eqL_comm4 (l m : L) : eqL l m = eqL m l := by
  rw [Bool.eq_iff_iff, eqL_iff, eqL_iff]
  exact ⟨fun h => h.symm, fun h => h.symm⟩
theorem cl_yes {ps : List L} {xs : List E} {k : Nat} {e : E} {l : L} (he : xs[k]? = some e) (hl : ps[e.at_.toNat]? = some l) (h : eqL e.ln l = false) : clL ps (xs.take (k + 1)) = clL ps (xs.take k) ++ [e] := by
  unfold clL
  rw [List.take_add_one, he, List.filter_append]
  show _ ++ [e].filter _ = _
  rw [List.filter_cons, lnD_at hl, h]
  rfl
theorem cl_no {ps : List L} {xs : List E} {k : Nat} {e : E} {l : L} (he : xs[k]? = some e) (hl : ps[e.at_.toNat]? = some l) (h : eqL e.ln l = true) : clL ps (xs.take (k + 1)) = clL ps (xs.take k) := by
  unfold clL
  rw [List.take_add_one, he, List.filter_append]
  show _ ++ [e].filter _ = _
  rw [List.filter_cons, lnD_at hl, h]
  show _ ++ [] = _
  rw [List.append_nil]
theorem cl_len (ps : List L) (xs : List E) : (clL ps xs).length ≤ xs.length := by unfold clL; exact List.length_filter_le _ _

end Go.Proofs.YtfclfmloceddfaaGreat
