/- Several texts in one. -/
import Derived.Test.YtmpgaccpdglhkaaStB
import Derived.Test.YtmpgaccpdglhkaaRSl
import Derived.Test.YtmpgaccpdglhkaaConB
import Derived.Test.YtmpgaccpdglhkaaChkA
/- The first state of a box that is not good: contract of find. -/
set_option linter.unusedVariables false
set_option linter.unusedSimpArgs false
namespace Go.Proofs.Ytmpgaccpdglhkaa
open Go.RowKit Go.Shelf Tinker
attribute [local go_sem] Oper.semAt_some

/-- states makes its iterator. -/
theorem states_mk (a b : Option Addr) (ca cb : Nat) (out mn mx : Int) (w : World) :
    Calls Try.prog 68 #[.agg #[.slice a 4 ca, .slice b 4 cb, .int .i64 out, .int .i64 mn, .int .i64 mx]] w fun e w' => e = .returned (.func (.func 102) #[] #[.pointer (some ⟨w.heap.size, 0, none⟩)]) ∧ w.alloc (.cells #[.slice a 4 ca, .slice b 4 cb, .int .i64 out, .int .i64 mn, .int .i64 mx] 40) = w' := by
  go_enter Try.func68, Try.ntmps68
  go_wp2
  go_ret
  exact ⟨rfl, rfl⟩

/-- The memory of find: the function, the two results. B is the size of the heap at the start. -/
structure FndI (B : Nat) (f v : Value) (r : Bool) (w W : World) : Prop where
  bf : W.heap[B + 1]? = some (.cells #[f] 86 (0, 0))
  bv : W.heap[B + 1 + 1]? = some (.cells #[v] 34 (0, 0))
  br : W.heap[B + 1 + 1 + 1]? = some (.cells #[.bool r] 4 (0, 0))
  below : Below w.heap.size w W
theorem FndI.lowB {B : Nat} {f v : Value} {r : Bool} {w W W' : World} (h : FndI B f v r w W) {n : Nat} (hb : Below n W W') (hn : B + 4 ≤ n ∧ w.heap.size ≤ n) : FndI B f v r w W' :=
  ⟨hp_below h.bf hb (by omega), hp_below h.bv hb (by omega), hp_below h.br hb (by omega), h.below.trans (hb.mono hn.2)⟩
theorem FndI.low {B : Nat} {f v : Value} {r : Bool} {w W W' : World} (h : FndI B f v r w W) (hb : Below W.heap.size W W') : FndI B f v r w W' :=
  h.lowB hb ⟨by have := hp_lt h.br; omega, h.below.size⟩
theorem FndI.drew {B : Nat} {f v : Value} {r : Bool} {w W : World} (h : FndI B f v r w W) : FndI B f v r w W.drew := ⟨hp_drew h.bf, hp_drew h.bv, hp_drew h.br, h.below.drew⟩
theorem FndI.put {B : Nat} {f v : Value} {r : Bool} {w W : World} (h : FndI B f v r w W) (hB : w.heap.size ≤ B) (v' : Value) (r' : Bool) :
    FndI B f v' r' w ((W.setCell ⟨B + 1 + 1, 0, none⟩ v').setCell ⟨B + 1 + 1 + 1, 0, none⟩ (.bool r')) :=
  ⟨hp_set (hp_set h.bf (by show B + 1 ≠ B + 1 + 1; omega) _) (by show B + 1 ≠ B + 1 + 1 + 1; omega) _,
   hp_set (by simpa using hp_put h.bv 0 v') (by show B + 1 + 1 ≠ B + 1 + 1 + 1; omega) _,
   by simpa using hp_put (hp_set h.br (p := ⟨B + 1 + 1, 0, none⟩) (by show B + 1 + 1 + 1 ≠ B + 1 + 1; omega) v') 0 (.bool r'),
   (h.below.setCell (p := ⟨B + 1 + 1, 0, none⟩) (by show _ ≤ B + 1 + 1; omega) _).setCell (p := ⟨B + 1 + 1 + 1, 0, none⟩) (by show _ ≤ B + 1 + 1 + 1; omega) _⟩
theorem find_none {lo hi : List Int} {G : List Int → Bool} (h : ∀ x ∈ stRs lo hi, G x.1 = true) : (allS lo hi).find? (fun s => !G s) = none := by
  rw [← stRs_map, List.find?_eq_none]
  intro s hs
  obtain ⟨x, hx, rfl⟩ := List.mem_map.1 hs
  simp [h x hx]
theorem find_some {lo hi : List Int} {G : List Int → Bool} {pre : List (St lo hi)} {x : St lo hi} (hp : pre ++ [x] <+: stRs lo hi) (h1 : ∀ y ∈ pre, G y.1 = true) (h2 : G x.1 = false) : (allS lo hi).find? (fun s => !G s) = some x.1 := by
  obtain ⟨t, ht⟩ := hp
  rw [← stRs_map, ← ht]
  simp only [List.map_append, List.append_assoc, List.find?_append]
  have h3 : (pre.map Subtype.val).find? (fun s => !G s) = none := by
    rw [List.find?_eq_none]
    intro s hs
    obtain ⟨y, hy, rfl⟩ := List.mem_map.1 hs
    simp [h1 y hy]
  rw [h3]
  simp [h2]
/-- What find answers. -/
def GivesFind (o : Option (List Int)) (w : World) (e : Ending) (w' : World) : Prop :=
  ∃ a c, e = .returned (.tuple #[.slice a (o.getD []).length c, .bool o.isSome]) ∧ IntsAt w' a (o.getD []) ∧ Below w.heap.size w w'
theorem loadVar_sl {w : World} {g : Nat} {v : Value} (h : w.cell? ⟨g, 0, none⟩ = some v) : (loadVar 34 ⟨g, 0, none⟩).run Try.prog w = .ok v w := by
  simp [loadVar, isAgg, run_underlying Try.underlying34, go_sem, h]
theorem loadVar_bo {w : World} {g : Nat} {v : Value} (h : w.cell? ⟨g, 0, none⟩ = some v) : (loadVar 4 ⟨g, 0, none⟩).run Try.prog w = .ok v w := by
  simp [loadVar, isAgg, run_underlying Try.underlying4, go_sem, h]
theorem results_find (tmps : Array Value) (w : World) (p q : Nat) (u v : Value) (hp : tmps.getD 4 undef = .pointer (some ⟨p, 0, none⟩)) (hq : tmps.getD 5 undef = .pointer (some ⟨q, 0, none⟩)) (hu : w.cell? ⟨p, 0, none⟩ = some u) (hv : w.cell? ⟨q, 0, none⟩ = some v) :
    (results Try.f96 tmps).run Try.prog w = .ok (.tuple #[u, v]) w := by
  have hp' : tmps[4]?.getD undef = .pointer (some ⟨p, 0, none⟩) := by simpa using hp
  have hq' : tmps[5]?.getD undef = .pointer (some ⟨q, 0, none⟩) := by simpa using hq
  have hr : (Try.f96).results = #[.cell 4 34, .cell 5 4] := rfl
  simp [results, hr, hp', hq', asAddr, loadVar_sl hu, loadVar_bo hv]

set_option maxRecDepth 100000 in
set_option maxHeartbeats 4000000 in
theorem find_first (G : List Int → Bool) (P C : Nat) (lb lf hb hf ca cb : Nat) (lo hi : List Int) (out mn mx : Int) (w : World) (hc : OkC lo hi) (hlb : lb < w.heap.size) (hhb : hb < w.heap.size)
    (hl : ∀ j n, lo[j]? = some n → w.cell? ⟨lb, lf + j, none⟩ = some (.int .i64 n)) (hh : ∀ j n, hi[j]? = some n → w.cell? ⟨hb, hf + j, none⟩ = some (.int .i64 n))
    (hG : ∀ (W : World) (s : List Int) (b : Nat), Below w.heap.size w W → IntsAt W (some ⟨b, 0, none⟩) s → inBx lo hi 4 s → Calls Try.prog 97 #[.slice (some ⟨b, 0, none⟩) 4 4, .pointer (some ⟨P, 0, none⟩), .pointer (some ⟨C, 0, none⟩)] W fun e w' => e = .returned (.bool (G s)) ∧ Below W.heap.size W w') :
    Calls Try.prog 96 #[.agg #[.slice (some ⟨lb, lf, none⟩) 4 ca, .slice (some ⟨hb, hf, none⟩) 4 cb, .int .i64 out, .int .i64 mn, .int .i64 mx], .func (.func 97) #[] #[.pointer (some ⟨P, 0, none⟩), .pointer (some ⟨C, 0, none⟩)]] w (GivesFind ((allS lo hi).find? fun s => !G s) w) := by
  have HG := Lib.hid hG
  have HL := Lib.hid hl
  have HH := Lib.hid hh
  have HC := Lib.hid hc
  clear hG hl hh hc
  have hI0 : FndI w.heap.size (.func (.func 97) #[] #[.pointer (some ⟨P, 0, none⟩), .pointer (some ⟨C, 0, none⟩)]) (.slice none 0 0) false w ((((w.alloc (.cells #[.slice (some ⟨lb, lf, none⟩) 4 ca, .slice (some ⟨hb, hf, none⟩) 4 cb, .int .i64 out, .int .i64 mn, .int .i64 mx] 40)).alloc (.cells #[.func (.func 97) #[] #[.pointer (some ⟨P, 0, none⟩), .pointer (some ⟨C, 0, none⟩)]] 86)).alloc (.cells #[.slice none 0 0] 34)).alloc (.cells #[.bool false] 4)) :=
    ⟨hp_alloc (hp_alloc (hp_new (by simp only [World.size_alloc]))), hp_alloc (hp_new (by simp only [World.size_alloc])), hp_new (by simp only [World.size_alloc]), ((((Below.refl _ _).alloc (Nat.le_refl _) _).alloc (by simp) _).alloc (by simp; omega) _).alloc (by simp; omega) _⟩
  have HI0 := Lib.hid hI0
  have b0 : ((((w.alloc (.cells #[.slice (some ⟨lb, lf, none⟩) 4 ca, .slice (some ⟨hb, hf, none⟩) 4 cb, .int .i64 out, .int .i64 mn, .int .i64 mx] 40)).alloc (.cells #[.func (.func 97) #[] #[.pointer (some ⟨P, 0, none⟩), .pointer (some ⟨C, 0, none⟩)]] 86)).alloc (.cells #[.slice none 0 0] 34)).alloc (.cells #[.bool false] 4)).heap[w.heap.size]? = some (.cells #[.slice (some ⟨lb, lf, none⟩) 4 ca, .slice (some ⟨hb, hf, none⟩) 4 cb, .int .i64 out, .int .i64 mn, .int .i64 mx] 40 (0, 0)) := hp_alloc (hp_alloc (hp_alloc (hp_new rfl)))
  have c0 := hp_cell b0 (j := 0) (by rfl)
  have c1 := hp_cell b0 (j := 1) (by rfl)
  have c2 := hp_cell b0 (j := 2) (by rfl)
  have c3 := hp_cell b0 (j := 3) (by rfl)
  have c4 := hp_cell b0 (j := 4) (by rfl)
  clear hI0 b0
  refine (callsIn_wide (n := 4)).1 ?_
  refine callsIn_of_wp_marks Try.func96 rfl trivial ?_
  simp only [Try.ntmps96, List.size_toArray, List.length_cons, List.length_nil, Nat.reduceAdd, Nat.reduceSub, Array.replicate_succ, Array.replicate_zero, List.push_toArray, List.append_toArray, List.nil_append, List.cons_append]
  gi_wp2_with fail
  refine wpIn_wide.2 ?_
  go_step3
  refine (wpIn_wide (n := 4)).1 ?_
  gi_wp2_with fail
  refine wpIn_label ?_
  gi_wp2_with fail
  refine ⟨trivial, ?_⟩
  gi_at_call 68
  refine (callsIn_wide.2 (states_mk _ _ _ _ _ _ _ _)).mono ?_
  rintro e w4 ⟨rfl, hw4⟩
  try simp only [World.size_alloc]
  try simp only [World.size_alloc] at hw4
  have hI4 : FndI w.heap.size (.func (.func 97) #[] #[.pointer (some ⟨P, 0, none⟩), .pointer (some ⟨C, 0, none⟩)]) (.slice none 0 0) false w w4 := by
    rw [← hw4]; exact HI0.out.low ((Below.refl _ _).alloc (Nat.le_refl _) _)
  have hbx : w4.heap[w.heap.size + 1 + 1 + 1 + 1]? = some (.cells #[.slice (some ⟨lb, lf, none⟩) 4 ca, .slice (some ⟨hb, hf, none⟩) 4 cb, .int .i64 out, .int .i64 mn, .int .i64 mx] 40 (0, 0)) := by
    rw [← hw4]; exact hp_new (by simp only [World.size_alloc])
  have hsz : w4.heap.size = w.heap.size + 5 := by rw [← hw4]; simp
  have HI4 := Lib.hid hI4
  have hws := hI4.below.size
  have hseq := states_iter 3 (by omega) (w.heap.size + 1 + 1 + 1 + 1) lb lf hb hf ca cb lo hi out mn mx [w.heap.size + 2, w.heap.size + 3] w4 HC.out hbx (by omega) (by omega)
    (fun j m hj => (hI4.below.cell (p := ⟨lb, _, none⟩) hlb).trans (HL.out j m hj)) (fun j m hj => (hI4.below.cell (p := ⟨hb, _, none⟩) hhb).trans (HH.out j m hj)) (by refine ⟨?_, ?_, ?_⟩ <;> simp <;> omega) (by simp; omega)
  have HSEQ := Lib.hid hseq
  clear hw4 hI4 hseq hbx c0 c1 c2 c3 c4
  gi_wp2_with fail
  refine rng_law (by omega) (gf := 102) (lb := #[.pointer (some ⟨w.heap.size + 1 + 1 + 1 + 1, 0, none⟩)]) rfl (enters_of Try.func102 (by kernel_rfl) rfl) [w.heap.size + 2, w.heap.size + 3] (stRs lo hi) HSEQ.out (fun _ => rfl) (by simp; omega)
    (fun pre W => FndI w.heap.size (.func (.func 97) #[] #[.pointer (some ⟨P, 0, none⟩), .pointer (some ⟨C, 0, none⟩)]) (.slice none 0 0) false w W ∧ ∀ x ∈ pre, G x.1 = true)
    (fun pre W => ∃ (pre' : List (St lo hi)) (x : St lo hi) (a : Option Addr) (c : Nat), pre = pre' ++ [x] ∧ (∀ y ∈ pre', G y.1 = true) ∧ G x.1 = false ∧ FndI w.heap.size (.func (.func 97) #[] #[.pointer (some ⟨P, 0, none⟩), .pointer (some ⟨C, 0, none⟩)]) (.slice a 4 c) true w W ∧ W.ownsRow w.heap.size 3 1 (.slice a 4 c) 4 (x.1.map (Value.int .i64)))
    ?hI ?hIx ⟨HI4.out, by simp⟩ ?round ?done ?stop
  case hI =>
    rintro pre A A' ⟨h1, h2⟩ hb
    exact ⟨h1.lowB hb (by omega), h2⟩
  case hIx =>
    rintro pre A r o ⟨pre', x, a, c, e, h1, h2, h3, h4⟩ hl
    have hl2 := hp_lt hl
    exact ⟨pre', x, a, c, e, h1, h2, h3.lowB (below_putObj w4.heap.size A (by omega) o) (by omega), ownsRow_putObj h4 o hl rfl⟩
  case round =>
    rintro pre x A ⟨h1, h2⟩ hA hlen
    unfold encSt
    have HX4 := Lib.hid x.2.1
    have HGX := Lib.hid h2
    have HI1 := Lib.hid h1
    clear h1 h2
    gi_wp2_with (refine wpListIn_store_row rfl 103 (.tmp 6) (.tmp 9) rfl A.heap.size (iv x.1) rfl rfl 103 _ (hp_new rfl) (by rw [info_stt, iv_size, HX4.out]) (by rw [iv_size, HX4.out]; rfl) (iv_one _) ?_)
    rw [row_new]
    refine ⟨(Below.refl _ _).alloc (Nat.le_refl _) _, fun A2 hb2 hs2 hk2 => ?_⟩
    simp only [Act.put]
    have hBF := HI1.out.below.size
    have hst : A2.heap[A.heap.size]? = some (.cells (iv x.1) 103 (0, 0)) := (hk2 _ (by omega)).trans (hp_new rfl)
    have HI2 := Lib.hid ((HI1.out.lowB ((Below.refl _ _).alloc (Nat.le_refl A.heap.size) _) ⟨by omega, by omega⟩).lowB hb2 ⟨by omega, by omega⟩)
    have hsz2 : A2.heap.size = A.heap.size + 1 := by rw [hs2]; simp
    clear hb2 hs2 hk2 HI1
    have hsc : ∀ j n, x.1[j]? = some n → A2.cell? ⟨A.heap.size, 0 + j, none⟩ = some (.int .i64 n) := fun j n hj => by
      rw [Nat.zero_add]; exact hp_cell hst (by simp [iv, hj])
    have HSC := Lib.hid hsc
    have HIN := Lib.hid x.2
    clear hsc hst
    have hI := HI2.out.drew
    have c1 := hp_cell hI.bf (j := 0) (by rfl)
    have hmx : Try.prog.follows .mixedOrders = true := by kernel_rfl
    gi_wp2_with fail
    clear HI2
    gi_region_with_o (refine ⟨trivial, ?_⟩; gi_at_call 97; refine (CallsIn.inRound _ (callsIn_wide.2 (HG.out _ x.1 A.heap.size hI.below ?_ ?_))).mono ?_; exact .inr ⟨_, _, rfl, by show _ < A2.heap.size; omega, fun j n hj => HSC.out j n hj⟩; exact HIN.out; rintro e w5 ⟨rfl, hb5⟩; replace hI := hI.low hb5; have hsz5 := hb5.size)
    all_goals clear c1
    all_goals replace hsz5 : A.heap.size + 1 ≤ w5.heap.size := (by rw [← hsz2]; exact hsz5)
    all_goals have HSC5 := Lib.hid (fun (j : Nat) (n : Int) (hj : x.1[j]? = some n) => (hb5.cell (p := ⟨A.heap.size, _, none⟩) (by show A.heap.size < A2.heap.size; omega)).trans (HSC.out j n hj))
    all_goals have HKX := Lib.hid ((KX.of_below (X := [w.heap.size + 2, w.heap.size + 3]) (((Below.refl A2.heap.size A2).drew).trans (by exact hb5))))
    all_goals have HI5 := Lib.hid hI
    all_goals clear hb5 hI
    all_goals (
      by_cases hGx : G x.1 = true
      · have HGG := Lib.hid hGx
        rw [hGx]
        clear hGx
        gi_wp2_with fail
        refine ⟨HKX.out, HI5.out, fun y hy => ?_⟩
        rcases List.mem_append.1 hy with hy | hy
        · exact HGX.out y hy
        · rw [List.mem_singleton.1 hy]; exact HGG.out
      · have hGx2 : G x.1 = false := by simpa using hGx
        have HGG := Lib.hid hGx2
        rw [hGx2]
        clear hGx hGx2
        gi_wp2_with fail
        refine ⟨trivial, ?_⟩
        gi_at_call 75
        refine (CallsIn.inRound _ (callsIn_wide.2 (cloneInts_any A.heap.size 0 4 4 x.1 w5 HX4.out (by omega) (by omega) HSC5.out (by omega)))).mono ?_
        rintro e w6 ⟨sa, sc, rfl, ho, hb6⟩
        rw [HX4.out] at ho ⊢
        have hI6 := HI5.out.low hb6
        have HO6 := Lib.hid ho
        have HB6 := Lib.hid hb6
        clear ho hb6
        have v0 := hp_cell hI6.bv (j := 0) (by rfl)
        have v1 := hp_free hI6.bv 0
        have r0 := hp_cell (hp_set hI6.br (p := ⟨w.heap.size + 1 + 1, 0, none⟩) (by show _ ≠ w.heap.size + 1 + 1; omega) (.slice sa 4 sc)) (j := 0) (by rfl)
        have r1 := hp_free (hp_set hI6.br (p := ⟨w.heap.size + 1 + 1, 0, none⟩) (by show _ ≠ w.heap.size + 1 + 1; omega) (.slice sa 4 sc)) 0
        gi_wp2_with fail
        refine ⟨((HKX.out.trans (KX.of_below HB6.out)).trans (KX.setCell _ (b := w.heap.size + 2) (by simp) 0 _)).trans (KX.setCell _ (b := w.heap.size + 3) (by simp) 0 _), pre, x, sa, sc, rfl, HGX.out, HGG.out, hI6.put (Nat.le_refl _) _ _, ?_⟩
        exact own_mono (ownsRow_setCell_below (ownsRow_setCell_below HO6.out (a := ⟨w.heap.size + 1 + 1, 0, none⟩) (by show w.heap.size + 1 + 1 < _; omega) _) (a := ⟨w.heap.size + 1 + 1 + 1, 0, none⟩) (by show w.heap.size + 1 + 1 + 1 < _; omega) _) (by omega))
  case done =>
    rintro W ⟨h1, h2⟩ hK
    have HN := Lib.hid (find_none h2)
    have HI5 := Lib.hid h1
    have v0 := hp_cell h1.bv (j := 0) (by rfl)
    have v1 := hp_free h1.bv 0
    have r0 := hp_cell (hp_set h1.br (p := ⟨w.heap.size + 1 + 1, 0, none⟩) (by show _ ≠ w.heap.size + 1 + 1; omega) (.slice none 0 0)) (j := 0) (by rfl)
    have r1 := hp_free (hp_set h1.br (p := ⟨w.heap.size + 1 + 1, 0, none⟩) (by show _ ≠ w.heap.size + 1 + 1; omega) (.slice none 0 0)) 0
    clear h1 h2
    gi_wp2_with fail
    have hws4 : w.heap.size + 1 + 1 + 1 < w4.heap.size := by omega
    refine ⟨by simp, .inl ⟨_, _, rfl, run_takeDeferred (hp_set (hp_set hK (by show _ ≠ w.heap.size + 1 + 1; omega) _) (by show _ ≠ w.heap.size + 1 + 1 + 1; omega) _), ?_⟩⟩
    have hJ := HI5.out.put (Nat.le_refl _) (.slice none 0 0) false
    have hJ2 := hJ.lowB (below_putObj w4.heap.size _ (Nat.le_refl _) (.deferred none)) ⟨by omega, by omega⟩
    exact ⟨_, results_find _ _ _ _ _ _ rfl rfl (hp_cell hJ2.bv (j := 0) (by rfl)) (hp_cell hJ2.br (j := 0) (by rfl)), by rw [HN.out]; exact ⟨none, 0, rfl, .inl rfl, hJ2.below⟩⟩
  case stop =>
    rintro pre W hpre ⟨pre', x, a, c, rfl, h1, h2, h3, h4⟩ hK
    have HN := Lib.hid (find_some hpre h1 h2)
    have HI5 := Lib.hid h3
    have HO5 := Lib.hid h4
    have HX4 := Lib.hid x.2.1
    clear h1 h2 h3 h4
    gi_wp2_with fail
    have hws4 : w.heap.size + 1 + 1 + 1 < w4.heap.size := by omega
    refine ⟨by simp, .inl ⟨_, _, rfl, run_takeDeferred hK, ?_⟩⟩
    have hJ2 := HI5.out.lowB (below_putObj w4.heap.size W (Nat.le_refl _) (.deferred none)) ⟨by omega, by omega⟩
    have hO2 := ownsRow_putObj HO5.out (.deferred none) hK rfl
    exact ⟨_, results_find _ _ _ _ _ _ rfl rfl (hp_cell hJ2.bv (j := 0) (by rfl)) (hp_cell hJ2.br (j := 0) (by rfl)), by rw [HN.out]; exact ⟨a, c, by show Ending.returned (.tuple #[.slice a 4 c, .bool true]) = Ending.returned (.tuple #[.slice a x.1.length c, .bool true]); rw [HX4.out], (ints_of_own hO2).1, hJ2.below⟩⟩

end Go.Proofs.Ytmpgaccpdglhkaa

/- Good states: isGood, validateContract, firstBad, Keeps, First of package check. -/
set_option linter.unusedVariables false
set_option linter.unusedSimpArgs false
namespace Go.Proofs.Ytmpgaccpdglhkaa
open Go.RowKit Go.Shelf Tinker

/-- A good state of a contract. -/
def gdP (ps : List L) (out mn mx : Int) (s : List Int) : Bool := btw (endP ps s out) mn mx
/-- What validateContract answers. -/
def vpc (ps : List L) (lo hi : List Int) (out mn mx : Int) : Int := fe (vp ps) (vcon lo hi out mn mx)
theorem vcon_ok {lo hi : List Int} {out mn mx : Int} (h : vcon lo hi out mn mx = 0) : isCon lo hi out mn mx = true ∧ prd lo hi 4 ≤ 400 := by
  cases hc : isCon lo hi out mn mx
  · rw [vcon_no hc] at h; omega
  · rw [vcon_yes hc] at h
    refine ⟨rfl, ?_⟩
    split at h <;> omega
theorem okC_of {lo hi : List Int} {out mn mx : Int} (h : isCon lo hi out mn mx = true) : OkC lo hi := by
  obtain ⟨h1, h2, h3, _⟩ := isCon_ok h
  exact ⟨(vs_ok h1).1, (vs_ok h2).1, fun j hj => leTo_le h3 hj, (vs_ok h1).2, (vs_ok h2).2⟩
theorem vpc_ok {ps : List L} {lo hi : List Int} {out mn mx : Int} (h : vpc ps lo hi out mn mx = 0) : vp ps = 0 ∧ vcon lo hi out mn mx = 0 := by
  unfold vpc fe at h; split at h
  · exact ⟨by assumption, h⟩
  · contradiction
/-- A state of the box of a valid contract is valid. -/
theorem inBx_vs {lo hi s : List Int} (hc : OkC lo hi) (h : inBx lo hi 4 s) : vs s = 0 := by
  refine vs_ok' h.1 fun n hn => ?_
  obtain ⟨j, hj, e⟩ := List.mem_iff_getElem.1 hn
  have h4 := h.1
  have l4 := hc.l4
  have r4 := hc.h4
  have := h.2 j (by omega)
  have e1 : s.getD j 0 = n := by rw [List.getD_eq_getElem?_getD, List.getElem?_eq_getElem hj, e]; rfl
  have e2 : lo.getD j 0 ∈ lo := by rw [List.getD_eq_getElem?_getD, List.getElem?_eq_getElem (by omega)]; exact List.getElem_mem _
  have e3 : hi.getD j 0 ∈ hi := by rw [List.getD_eq_getElem?_getD, List.getElem?_eq_getElem (by omega)]; exact List.getElem_mem _
  have := hc.lb _ e2
  have := hc.hb _ e3
  omega

set_option maxRecDepth 100000 in
set_option maxHeartbeats 1000000 in
theorem isGood_any (a b a1 b1 : Option Addr) (ca cb n1 n2 c1 c2 : Nat) (ps : List L) (s : List Int) (out mn mx : Int) (w : World) (hp : LinesAt w a ps) (hs : IntsAt w b s) (hz : vr ps s = 0) (ho : isReg out = true) :
    Calls Try.prog 98 #[.slice a ps.length ca, .agg #[.slice a1 n1 c1, .slice b1 n2 c2, .int .i64 out, .int .i64 mn, .int .i64 mx], .slice b s.length cb] w fun e w' => e = .returned (.bool (gdP ps out mn mx s)) ∧ Below w.heap.size w w' := by
  have HE := Lib.hid (fun w hp hs => end_any a b ca cb ps s out w hp hs hz ho)
  have HI := Lib.hid (boxC_new (a := a1) (b := b1) (n := n1) (m := n2) (ca := c1) (cb := c2) (out := out) (mn := mn) (mx := mx) w)
  have hlx := hp_lt HI.out.bl
  have x2 := HI.out.c2
  have x3 := HI.out.c3
  have x4 := HI.out.c4
  unfold gdP
  generalize endP ps s out = V at HE
  clear hz ho
  go_enter Try.func98, Try.ntmps98
  go_wp2_with fail
  go_region_held3 (fun w' => w'.cell? ⟨w.heap.size, 2, none⟩ = some (.int .i64 out) ∧ w'.cell? ⟨w.heap.size, 3, none⟩ = some (.int .i64 mn) ∧ w'.cell? ⟨w.heap.size, 4, none⟩ = some (.int .i64 mx)) (first | exact ⟨x2, x3, x4⟩ | exact ⟨(hBa.cell (p := ⟨w.heap.size, _, none⟩) hlx).trans x2, (hBa.cell (p := ⟨w.heap.size, _, none⟩) hlx).trans x3, (hBa.cell (p := ⟨w.heap.size, _, none⟩) hlx).trans x4⟩ | go_keep) (first | (go_at_call 69; refine (HE.out _ ?_ ?_).mono ?_; exact (hp.below HI.out.drew.below (Nat.le_refl _)); exact (hs.below HI.out.drew.below (Nat.le_refl _)); rintro e wa ⟨rfl, hBa⟩) | (go_at_call 46; refine (isBetween_any _ _ _ _).mono ?_; rintro e wb ⟨rfl, rfl⟩))
  all_goals go_wp2_with fail
  all_goals go_ret
  all_goals exact ⟨rfl, (HI.out.drew.low hBa).below⟩

set_option maxRecDepth 100000 in
set_option maxHeartbeats 1000000 in
/-- The closure of firstBad. -/
theorem clos_first (w0 : World) (P C : Nat) (a a1 b1 : Option Addr) (ca n1 n2 c1 c2 : Nat) (ps : List L) (out mn mx : Int)
    (hP : w0.heap[P]? = some (.cells #[.slice a ps.length ca] 22 (0, 0)))
    (hC : w0.heap[C]? = some (.cells #[.slice a1 n1 c1, .slice b1 n2 c2, .int .i64 out, .int .i64 mn, .int .i64 mx] 40 (0, 0)))
    (W : World) (s : List Int) (b : Nat) (hB : Below w0.heap.size w0 W) (hp : LinesAt W a ps) (hs : IntsAt W (some ⟨b, 0, none⟩) s) (hz : vr ps s = 0) (h4 : s.length = 4) (ho : isReg out = true) :
    Calls Try.prog 97 #[.slice (some ⟨b, 0, none⟩) 4 4, .pointer (some ⟨P, 0, none⟩), .pointer (some ⟨C, 0, none⟩)] W fun e w' => e = .returned (.bool (gdP ps out mn mx s)) ∧ Below W.heap.size W w' := by
  have HG := Lib.hid (fun w hp hs => isGood_any a (some ⟨b, 0, none⟩) a1 b1 ca 4 n1 n2 c1 c2 ps s out mn mx w hp hs hz ho)
  rw [h4] at HG
  have q0 := hp_cell (hp_below hP hB (hp_lt hP)) (j := 0) (by rfl)
  have q2 := hp_below hC hB (hp_lt hC)
  have r0 := hp_cell q2 (j := 0) (by rfl)
  have r1 := hp_cell q2 (j := 1) (by rfl)
  have r2 := hp_cell q2 (j := 2) (by rfl)
  have r3 := hp_cell q2 (j := 3) (by rfl)
  have r4 := hp_cell q2 (j := 4) (by rfl)
  have HP := Lib.hid hp
  have HS := Lib.hid hs
  clear hz ho hp hs hP hC hB q2
  go_enter Try.func97, Try.ntmps97
  go_wp2_with fail
  go_at_call 98
  refine (HG.out _ HP.out HS.out).mono ?_
  rintro e w1 ⟨rfl, hB⟩
  go_wp2_with fail
  go_ret
  exact ⟨rfl, hB⟩

end Go.Proofs.Ytmpgaccpdglhkaa
