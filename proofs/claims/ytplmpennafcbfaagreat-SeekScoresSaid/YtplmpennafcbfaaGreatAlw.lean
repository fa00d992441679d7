/- Several texts in one. -/
import Derived.Test.YtplmpennafcbfaaGreatMuB
import Derived.Test.YtplmpennafcbfaaGreatChkC
import Derived.Test.YtplmpennafcbfaaGreatFxR
import Derived.Test.YtplmpennafcbfaaGreatSgB
import Derived.Test.YtplmpennafcbfaaGreatRfx
import Derived.BigQuiet
import Derived.Test.YtplmpennafcbfaaGreatSkC
import Derived.Test.YtplmpennafcbfaaGreatSnr
import Derived.Test.YtplmpennafcbfaaGreatLng
import Derived.Test.YtplmpennafcbfaaGreatMny
/- Plain mathematics: mutants that no test kills, and the share of the others. -/
set_option linter.unusedVariables false
set_option linter.unusedSimpArgs false
namespace Go.Proofs.YtplmpennafcbfaaGreat
open Go.RowKit Go.Shelf Tinker

theorem nodup_len {α : Type} : ∀ {l m : List α}, l.Pairwise (· ≠ ·) → (∀ x ∈ l, x ∈ m) → l.length ≤ m.length
  | [], _, _, _ => Nat.zero_le _
  | x :: r, m, hn, hs => by
    haveI : DecidableEq α := fun a b => Classical.propDecidable (a = b)
    obtain ⟨h1, h2⟩ := List.pairwise_cons.1 hn
    have hx := hs x (by simp)
    have ih := nodup_len (l := r) (m := m.erase x) h2 (fun y hy => (List.mem_erase_of_ne (fun e => h1 y hy e.symm)).2 (hs y (List.mem_cons_of_mem _ hy)))
    rw [List.length_erase_of_mem hx] at ih
    have hp := List.length_pos_of_mem hx
    rw [List.length_cons]
    omega
theorem rawL_len (l : L) : (rawL l).length ≤ 20 := by
  unfold rawL
  have h1 : (numsL l).length ≤ 2 := by unfold numsL; split <;> (try split) <;> simp
  have h2 : ∀ r, (regsTo l r).length ≤ 3 := fun r => by unfold regsTo; simp only [List.length_append]; split <;> split <;> split <;> simp
  have h3 : (regsL l).length ≤ 12 := by
    unfold regsL
    have e : rgI 0 4 = [0, 1, 2, 3] := by rfl
    rw [e]
    simp only [List.flatMap_cons, List.flatMap_nil, List.length_append, List.length_nil]
    have := h2 0; have := h2 1; have := h2 2; have := h2 3
    omega
  have h4 : (opsL l).length ≤ 4 := by unfold opsL; split <;> simp
  have h5 : (swpL l).length ≤ 1 := by unfold swpL; split <;> simp
  simp only [List.length_append, List.length_singleton]
  omega
theorem tmpl_len20 {l : L} (hl : isLn l = true) : (tmpl l).length ≤ 20 := by
  refine Nat.le_trans (nodup_len (m := rawL l) ?_ fun x hx => ?_) (rawL_len l)
  · unfold tmpl
    refine (allL_sorted.filter _).imp fun {x y} h e => ?_
    rw [e, ltL_irr] at h
    cases h
  · obtain ⟨h1, h2⟩ := tmpl_mem.1 hx
    exact raw_of_near hl h1 h2
theorem edK_len20 {ps : List L} (hv : vp ps = 0) : ∀ k, k ≤ ps.length → (edK ps 0 k).length ≤ 20 * k
  | 0, _ => by simp [edK]
  | k + 1, hk => by
    have ih := edK_len20 hv k (by omega)
    obtain ⟨l, hl⟩ := get_of_lt (show k < ps.length by omega)
    have h1 := tmpl_len20 ((vp_ok hv).2 l (mem_of_get hl))
    rw [edK_succ, List.length_append, List.length_map, cnd_tmpl, lnD_at hl]
    omega
theorem edL_len20 {ps : List L} (hv : vp ps = 0) : (edL ps 0).length ≤ 160 := by
  have := edK_len20 hv ps.length (Nat.le_refl _)
  have := (vp_ok hv).1
  unfold edL
  omega
/-- The mutants that no test kills. -/
def alB (ps : List L) (ts : List T) (e : E) : Bool := decide (0 < (trR true ps [e] ts).length)
def alL (ps : List L) (ts : List T) : List E := (edL ps 0).filter fun e => !alB ps ts e
def alC (ps : List L) (ts : List T) : Int := feL [vp ps, vts ts]
def alR (ps : List L) (ts : List T) : List E := if alC ps ts = 0 then alL ps ts else []
theorem alL_le (ps : List L) (ts : List T) : (alL ps ts).length ≤ (edL ps 0).length := List.length_filter_le _ _
theorem alC_ok {ps : List L} {ts : List T} (h : alC ps ts = 0) : vp ps = 0 ∧ vts ts = 0 := fe2_ok h
theorem alR_len (ps : List L) (ts : List T) : (alR ps ts).length ≤ 1000 := by
  unfold alR
  split
  · rename_i h
    have := alL_le ps ts
    have := edL_len20 (alC_ok h).1
    omega
  · simp
/-- How many of the first mutants some test kills. -/
def kiT (ps : List L) (ts : List T) (k : Nat) : Nat := (((edL ps 0).take k).filter (alB ps ts)).length
theorem kiT_yes {ps : List L} {ts : List T} {k : Nat} {e : E} (h : (edL ps 0)[k]? = some e) (hb : alB ps ts e = true) : kiT ps ts (k + 1) = kiT ps ts k + 1 := by
  unfold kiT
  rw [take_snoc h, List.filter_append, List.length_append]
  simp [hb]
theorem kiT_no {ps : List L} {ts : List T} {k : Nat} {e : E} (h : (edL ps 0)[k]? = some e) (hb : alB ps ts e = false) : kiT ps ts (k + 1) = kiT ps ts k := by
  unfold kiT
  rw [take_snoc h, List.filter_append, List.length_append]
  simp [hb]
theorem filter_both {α : Type} (f : α → Bool) : ∀ l : List α, (l.filter f).length + (l.filter fun x => !f x).length = l.length
  | [] => rfl
  | x :: r => by
    have ih := filter_both f r
    cases h : f x
    · simp only [List.filter_cons, h, List.length_cons]
      simp
      omega
    · simp only [List.filter_cons, h, List.length_cons]
      simp
      omega
def kiN (ps : List L) (ts : List T) : Nat := kiT ps ts (edL ps 0).length
theorem kiN_al (ps : List L) (ts : List T) : kiN ps ts + (alL ps ts).length = (edL ps 0).length := by
  unfold kiN kiT alL
  rw [List.take_length]
  exact filter_both _ _
/-- What Score answers: its code, and the fraction. -/
def scC (ps : List L) (ts : List T) : Int := if alC ps ts = 0 then (if (edL ps 0).length = 0 then 8 else 0) else alC ps ts
def scA (ps : List L) (ts : List T) : Int := if scC ps ts = 0 then fracA (kiN ps ts) (edL ps 0).length else 0
def scB (ps : List L) (ts : List T) : Int := if scC ps ts = 0 then fracB (kiN ps ts) (edL ps 0).length else 0
theorem scC_ok {ps : List L} {ts : List T} (h : scC ps ts = 0) : alC ps ts = 0 ∧ vp ps = 0 ∧ vts ts = 0 ∧ ¬ (edL ps 0).length = 0 := by
  unfold scC at h
  split at h
  · rename_i h1
    split at h
    · cases h
    · rename_i h2
      exact ⟨h1, (alC_ok h1).1, (alC_ok h1).2, h2⟩
  · rename_i h1
    exact absurd h h1
theorem frac_bd {n d : Nat} (hd : 1 ≤ d) (hn : n ≤ d) : 1 ≤ fracB n d ∧ fracB n d ≤ (d : Int) ∧ 0 ≤ fracA n d ∧ fracA n d ≤ fracB n d := by
  unfold fracA fracB
  have hg : 0 < Nat.gcd n d := Nat.gcd_pos_of_pos_right _ hd
  have h1 : 0 < d / Nat.gcd n d := Nat.div_pos (Nat.le_of_dvd hd (Nat.gcd_dvd_right n d)) hg
  have h2 : d / Nat.gcd n d ≤ d := Nat.div_le_self _ _
  have h3 : n / Nat.gcd n d ≤ d / Nat.gcd n d := Nat.div_le_div_right hn
  exact ⟨by exact_mod_cast h1, by exact_mod_cast h2, Int.natCast_nonneg _, by exact_mod_cast h3⟩
theorem frac_mono {m n d : Nat} (hd : 1 ≤ d) (h : m ≤ n) : fracA m d * fracB n d ≤ fracA n d * fracB m d := by
  have hg1 : 0 < Nat.gcd m d := Nat.gcd_pos_of_pos_right _ hd
  have hg2 : 0 < Nat.gcd n d := Nat.gcd_pos_of_pos_right _ hd
  have key : (m / Nat.gcd m d) * (d / Nat.gcd n d) ≤ (n / Nat.gcd n d) * (d / Nat.gcd m d) := by
    refine Nat.le_of_mul_le_mul_right (c := Nat.gcd m d * Nat.gcd n d) ?_ (Nat.mul_pos hg1 hg2)
    have e1 : (m / Nat.gcd m d) * (d / Nat.gcd n d) * (Nat.gcd m d * Nat.gcd n d) = m * d := by
      rw [Nat.mul_mul_mul_comm, Nat.div_mul_cancel (Nat.gcd_dvd_left m d), Nat.div_mul_cancel (Nat.gcd_dvd_right n d)]
    have e2 : (n / Nat.gcd n d) * (d / Nat.gcd m d) * (Nat.gcd m d * Nat.gcd n d) = n * d := by
      rw [Nat.mul_comm (Nat.gcd m d), Nat.mul_mul_mul_comm, Nat.div_mul_cancel (Nat.gcd_dvd_left n d), Nat.div_mul_cancel (Nat.gcd_dvd_right m d)]
    rw [e1, e2]
    exact Nat.mul_le_mul_right d h
  unfold fracA fracB
  exact_mod_cast key
/-- A test less kills no more. -/
theorem plcTo_pre {l m : List Bool} : ∀ k, (∀ i, i < k → l.getD i false = m.getD i false) → plcTo l k = plcTo m k
  | 0, _ => rfl
  | k + 1, h => by
    unfold plcTo
    rw [List.range_succ, List.filter_append, List.filter_append, List.map_append, List.map_append]
    have ih := plcTo_pre k fun i hi => h i (by omega)
    unfold plcTo at ih
    rw [ih]
    congr 1
    have := h k (by omega)
    simp only [List.filter_cons, List.filter_nil, this]
theorem plcTo_grow (l : List Bool) (k : Nat) : ∀ d, (plcTo l k).length ≤ (plcTo l (k + d)).length
  | 0 => Nat.le_refl _
  | d + 1 => by
    refine Nat.le_trans (plcTo_grow l k d) ?_
    show _ ≤ (plcTo l (k + d + 1)).length
    unfold plcTo
    rw [List.range_succ, List.filter_append, List.map_append, List.length_append]
    omega
theorem tr_less (b : Bool) (ps qs : List L) (ts : List T) (n : Nat) : (trL b ps qs (ts.take n)).length ≤ (trL b ps qs ts).length := by
  unfold trL plc
  rw [List.map_take]
  generalize (ts.map fun t => pas ps t == b && pas qs t != b) = bs
  by_cases hn : n ≤ bs.length
  · rw [List.length_take, Nat.min_eq_left hn]
    have h1 : plcTo (bs.take n) n = plcTo bs n := plcTo_pre n fun i hi => by
      rw [List.getD_eq_getElem?_getD, List.getD_eq_getElem?_getD, List.getElem?_take_of_lt hi]
    rw [h1]
    have := plcTo_grow bs n (bs.length - n)
    rwa [Nat.add_sub_cancel' hn] at this
  · rw [List.take_of_length_le (by omega)]
    exact Nat.le_refl _
theorem vts_take {ts : List T} {n : Nat} (h : vts ts = 0) : vts (ts.take n) = 0 := by
  obtain ⟨h1, h2⟩ := vts_ok h
  unfold vts
  rw [if_pos (by rw [List.length_take]; omega), if_pos]
  rw [List.all_eq_true]
  exact fun t ht => h2 t (List.mem_of_mem_take ht)
theorem kiN_less {ps : List L} {ts : List T} {n : Nat} (hv : vp ps = 0) (ht : vts ts = 0) : kiN ps (ts.take n) ≤ kiN ps ts := by
  have h2 := vts_take (n := n) ht
  unfold kiN kiT
  rw [List.take_length]
  have key : ∀ l : List E, (∀ e ∈ l, e ∈ edL ps 0) → (l.filter (alB ps (ts.take n))).length ≤ (l.filter (alB ps ts)).length := by
    intro l
    induction l with
    | nil => intro _; exact Nat.le_refl _
    | cons e r ih =>
      intro hm
      have ih := ih fun x hx => hm x (List.mem_cons_of_mem _ hx)
      have hok := edL_ok hv (hm e (by simp))
      have h3 := tr_less true ps (doL ps [e]) ts n
      have h4 : alB ps (ts.take n) e = true → alB ps ts e = true := by
        unfold alB
        rw [tr_one hok h2, tr_one hok ht, decide_eq_true_eq, decide_eq_true_eq]
        omega
      cases ha : alB ps (ts.take n) e
      · rw [List.filter_cons_of_neg (by rw [ha]; decide)]
        refine Nat.le_trans ih ?_
        rw [List.filter_cons]
        split
        · simp
        · exact Nat.le_refl _
      · rw [List.filter_cons_of_pos ha, List.filter_cons_of_pos (h4 ha), List.length_cons, List.length_cons]
        omega
  exact key _ fun e he => he
theorem scC_take {ps : List L} {ts : List T} {n : Nat} (h : scC ps ts = 0) : scC ps (ts.take n) = 0 := by
  obtain ⟨h1, h2, h3, h4⟩ := scC_ok h
  unfold scC
  rw [if_pos (by unfold alC; rw [h2, vts_take h3]; rfl), if_neg h4]
theorem sc_facts {ps : List L} {ts : List T} {n : Nat} (h : scC ps ts = 0) : (1 ≤ scB ps (ts.take n) ∧ scB ps (ts.take n) ≤ 1000 ∧ 0 ≤ scA ps (ts.take n) ∧ scA ps (ts.take n) ≤ 1000) ∧ (1 ≤ scB ps ts ∧ scB ps ts ≤ 1000 ∧ 0 ≤ scA ps ts ∧ scA ps ts ≤ scB ps ts) ∧ scA ps (ts.take n) * scB ps ts ≤ scA ps ts * scB ps (ts.take n) := by
  obtain ⟨h1, h2, h3, h4⟩ := scC_ok h
  have hz := scC_take (n := n) h
  have hl := edL_len20 h2
  unfold scA scB
  rw [if_pos h, if_pos h, if_pos hz, if_pos hz]
  have k1 := kiN_al ps ts
  have k2 := kiN_al ps (ts.take n)
  have b1 := frac_bd (n := kiN ps ts) (d := (edL ps 0).length) (by omega) (by omega)
  have b2 := frac_bd (n := kiN ps (ts.take n)) (d := (edL ps 0).length) (by omega) (by omega)
  exact ⟨⟨b2.1, by omega, b2.2.2.1, by omega⟩, ⟨b1.1, by omega, b1.2.2.1, b1.2.2.2⟩, frac_mono (by omega) (kiN_less h2 h3)⟩

end Go.Proofs.YtplmpennafcbfaaGreat

/- slices.DeleteFunc on edits, at the closure of seek.Alive (written by tools/gen/dle.py out of XDlL, XOtN and XDlF). -/
set_option linter.unusedVariables false
set_option linter.unusedSimpArgs false
namespace Go.Proofs.YtplmpennafcbfaaGreat
open Go.RowKit Tinker

theorem ec_takeA (zs : List E) (i : Nat) : ec (zs.take i) = (ec zs).take (i * 5) := by
  induction zs generalizing i with
  | nil => simp [ec]
  | cons z r ih =>
    cases i with
    | zero => simp [ec]
    | succ i =>
      rw [List.take_succ_cons, ec_cons, ec_cons, show (i + 1) * 5 = i * 5 + 5 by omega, ih]
      rfl
theorem ec_setA : ∀ {ps : List E} {i : Nat} (l : E), i < ps.length → ec (ps.set i l) = (((((ec ps).set (i * 5) (.int .i64 l.at_)).set (i * 5 + 1) (.int .i64 l.ln.op)).set (i * 5 + 2) (.int .i64 l.ln.to)).set (i * 5 + 3) (.int .i64 l.ln.a)).set (i * 5 + 4) (.int .i64 l.ln.b)
  | [], i, l, h => by simp at h
  | x :: q, 0, l, h => by rw [List.set_cons_zero, ec_cons, ec_cons]; rfl
  | x :: q, i + 1, l, h => by
    have ih := ec_setA (ps := q) (i := i) l (by simpa using h)
    rw [List.set_cons_succ, ec_cons, ec_cons, ih, show (i + 1) * 5 = i * 5 + 5 by omega]
    rfl
theorem own_setEdit {w : World} {base g n c : Nat} {e : TypeId} {ps : List E} (h : w.ownsRow base e 5 (.slice (some ⟨g, 0, none⟩) n c) n (ec ps)) {i : Nat} (hi : i < ps.length) (l : E) :
    (((((w.setCell ⟨g, i * 5, none⟩ (.int .i64 l.at_)).setCell ⟨g, i * 5 + 1, none⟩ (.int .i64 l.ln.op)).setCell ⟨g, i * 5 + 2, none⟩ (.int .i64 l.ln.to)).setCell ⟨g, i * 5 + 3, none⟩ (.int .i64 l.ln.a)).setCell ⟨g, i * 5 + 4, none⟩ (.int .i64 l.ln.b)).ownsRow base e 5 (.slice (some ⟨g, 0, none⟩) n c) n (ec (ps.set i l)) := by
  rw [ec_setA l hi]
  exact own_setCell (own_setCell (own_setCell (own_setCell (own_setCell h _ _) _ _) _ _) _ _) _ _
theorem setCells5 (W : World) (g o : Nat) (a b c d f : Value) : W.setCells g o [a, b, c, d, f] = ((((W.setCell ⟨g, o, none⟩ a).setCell ⟨g, o + 1, none⟩ b).setCell ⟨g, o + 2, none⟩ c).setCell ⟨g, o + 3, none⟩ d).setCell ⟨g, o + 4, none⟩ f := rfl
theorem own_setEditC {w : World} {base g n c : Nat} {e : TypeId} {ps : List E} (h : w.ownsRow base e 5 (.slice (some ⟨g, 0, none⟩) n c) n (ec ps)) {i : Nat} (hi : i < ps.length) (l : E) :
    (w.setCells g (i * 5) [.int .i64 l.at_, .int .i64 l.ln.op, .int .i64 l.ln.to, .int .i64 l.ln.a, .int .i64 l.ln.b]).ownsRow base e 5 (.slice (some ⟨g, 0, none⟩) n c) n (ec (ps.set i l)) := by
  rw [setCells5]
  exact own_setEdit h hi l
theorem own_thereE {w : World} {base g n c : Nat} {e : TypeId} {ps : List E} (h : w.ownsRow base e 5 (.slice (some ⟨g, 0, none⟩) n c) n (ec ps)) {i : Nat} (hi : i < ps.length) : w.there g (i * 5) 5 := fun j hj => by
  have hl : i * 5 + j < (ec ps).length := by rw [ec_length]; omega
  obtain ⟨v, hv⟩ := get_of_lt hl
  exact ⟨by rw [own_cell h hv]; rfl, own_free h _⟩
theorem one_ed (l : E) : (#[.int .i64 l.at_, .int .i64 l.ln.op, .int .i64 l.ln.to, .int .i64 l.ln.a, .int .i64 l.ln.b] : Array Value).all (·.oneCell') = true := by simp [Value.oneCell']
theorem info_ed5 : (Tryz.prog.info? 58).map (·.size) = some 5 := by kernel_rfl
theorem one_edV : (Value.agg #[.int .i64 0, .int .i64 0, .int .i64 0, .int .i64 0, .int .i64 0]).cells.size = 5 ∧ ∀ v ∈ (Value.agg #[.int .i64 0, .int .i64 0, .int .i64 0, .int .i64 0, .int .i64 0]).cells, v.oneCell' = true := by
  refine ⟨by rfl, fun v hv => ?_⟩
  have h : v = .int .i64 0 := by
    have : (Value.agg #[.int .i64 0, .int .i64 0, .int .i64 0, .int .i64 0, .int .i64 0]).cells = #[.int .i64 0, .int .i64 0, .int .i64 0, .int .i64 0, .int .i64 0] := by rfl
    rw [this] at hv
    simpa using hv
  rw [h]
  rfl

set_option maxRecDepth 100000 in
set_option maxHeartbeats 1000000 in
theorem idxAl_any (P B : Nat) (F : E → Bool) (a : Option Addr) (c : Nat) (zs : List E) (w : World) (hz : EditsAt w a zs) (hm : zs.length ≤ 100000)
    (hC : ∀ W, Below w.heap.size w W → ∀ n, Calls Tryz.prog 39 #[.agg (eV n), .pointer (some ⟨P, 0, none⟩), .pointer (some ⟨B, 0, none⟩)] W fun e w' => e = .returned (.bool (F n)) ∧ Below W.heap.size W w') :
    Calls Tryz.prog 72 #[.slice a zs.length c, .func (.func 39) #[] #[.pointer (some ⟨P, 0, none⟩), .pointer (some ⟨B, 0, none⟩)]] w fun e w' => e = .returned (.int .i64 (idxF F zs)) ∧ Below w.heap.size w w' := by
  have HC := Lib.hid hC
  have HZ := Lib.hid hz
  clear hC hz
  unfold eV at HC
  go_enter Tryz.func72, Tryz.ntmps72
  go_wp2_with fail
  go_loopw [8] (fun s8 wr => ∃ k : Nat, k ≤ zs.length ∧ s8 = .int .i64 k ∧ (zs.take k).all (fun x => !F x) = true ∧ Below w.heap.size w wr) (fun s8 _ => zs.length - (intOf s8).toNat)
  case atStart => exact ⟨0, Nat.zero_le _, rfl, by simp, Below.refl _ _⟩
  case round =>
    obtain ⟨k, hk, rfl, hall, hB⟩ := hrel
    have HA := Lib.hid hall
    have HB := Lib.hid hB
    clear hall hB
    by_cases hlt : k < zs.length
    · obtain ⟨b, off, x, rfl, hlb, hx, c0, c1, c2, c3, c4⟩ := (HZ.out.below HB.out (Nat.le_refl _)).at_ hlt
      have HX := Lib.hid hx
      have HF := Lib.hid (HC.out wr HB.out x)
      clear hx
      cases hn : F x
      · have HN := Lib.hid (all_snoc (f := fun x => !F x) HA.out HX.out (by simpa using hn))
        rw [hn] at HF
        clear hn
        go_wp2_with fail
        refine HF.out.mono ?_
        rintro e w1 ⟨rfl, hB1⟩
        have HB1 := Lib.hid (HB.out.trans (hB1.mono HB.out.size))
        clear hB1 c0 c1 c2 c3 c4
        go_wp2_with fail
        go_roundw
        case rel => exact ⟨k + 1, by omega, by go_num, HN.out, HB1.out⟩
        case measure => simp [intOf]; omega
      · have HI := Lib.hid (idxF_at (F := F) HA.out HX.out hn)
        rw [hn] at HF
        clear hn
        go_wp2_with fail
        refine HF.out.mono ?_
        rintro e w1 ⟨rfl, hB1⟩
        have HB1 := Lib.hid (HB.out.trans (hB1.mono HB.out.size))
        clear hB1 c0 c1 c2 c3 c4
        go_wp2_with fail
        go_ret
        exact ⟨ret_int HI.out.symm, HB1.out⟩
    · have HI := Lib.hid (idxF_none (F := F) (all_whole HA.out hlt))
      go_wp2_with fail
      go_ret
      exact ⟨ret_int HI.out.symm, HB.out⟩

set_option maxRecDepth 100000 in
set_option maxHeartbeats 16000000 in
theorem delAl_any (P B g base c : Nat) (F : E → Bool) (zs : List E) (w : World) (hO : w.ownsRow base 58 5 (.slice (some ⟨g, 0, none⟩) zs.length c) zs.length (ec zs)) (hm : zs.length ≤ 100000)
    (hC : ∀ W, Off g w W → ∀ n, Calls Tryz.prog 39 #[.agg (eV n), .pointer (some ⟨P, 0, none⟩), .pointer (some ⟨B, 0, none⟩)] W fun e w' => e = .returned (.bool (F n)) ∧ Below W.heap.size W w') :
    Calls Tryz.prog 37 #[.slice (some ⟨g, 0, none⟩) zs.length c, .func (.func 39) #[] #[.pointer (some ⟨P, 0, none⟩), .pointer (some ⟨B, 0, none⟩)]] w fun e w' =>
      e = .returned (.slice (some ⟨g, 0, none⟩) (zs.filter fun x => !F x).length c) ∧ w'.ownsRow base 58 5 (.slice (some ⟨g, 0, none⟩) (zs.filter fun x => !F x).length c) (zs.filter fun x => !F x).length (ec (zs.filter fun x => !F x)) ∧ Off g w w' := by
  have HI := Lib.hid (idxAl_any P B F (some ⟨g, 0, none⟩) c zs w (edits_of_own hO).1 hm (fun W hW => hC W (Off.low hW)))
  have HC := Lib.hid hC
  have HO := Lib.hid hO
  clear hC hO
  unfold eV at HC
  have hcap := own_cap HO.out
  rcases idxF_cases F zs with ⟨h1, h2⟩ | ⟨k0, x0, h1, h2, h3, h4⟩
  · rw [h1] at HI
    rw [h2]
    clear h1 h2
    go_enter Tryz.func37, Tryz.ntmps37
    go_wp2_with fail
    refine HI.out.mono ?_
    rintro e w1 ⟨rfl, hB⟩
    have HO1 := Lib.hid (own_below HO.out hB (Nat.le_refl _))
    have HB := Lib.hid hB
    clear hB
    go_wp2_with fail
    go_ret
    exact ⟨rfl, HO1.out, Off.low HB.out⟩
  · rw [h1] at HI
    have hkl : k0 < zs.length := (List.getElem?_eq_some_iff.1 h2).1
    have HD := Lib.hid h4
    have hne : ((k0 : Int) == -1) = false := beq_eq_false_iff_ne.2 (by omega)
    clear h1 h2 h3 h4
    go_enter Tryz.func37, Tryz.ntmps37
    go_wp2_with fail
    refine HI.out.mono ?_
    rintro e w1 ⟨rfl, hB⟩
    have HO1 := Lib.hid (own_below HO.out hB (Nat.le_refl _))
    have HB := Lib.hid hB
    clear hB
    go_wp2_with fail
    go_loopw [5, 6] (fun s5 s6 wr => ∃ (i j : Nat) (ds : List E), s5 = .int .i64 i ∧ s6 = .int .i64 j ∧ DelI F zs ds i j ∧ wr.ownsRow base 58 5 (.slice (some ⟨g, 0, none⟩) zs.length c) zs.length (ec ds) ∧ Off g w wr) (fun _ s6 _ => zs.length - (intOf s6).toNat)
    case atStart => exact ⟨k0, k0 + 1, zs, rfl, by go_num, HD.out, HO1.out, Off.low HB.out⟩
    case round =>
      clear HO HO1 HD HI HB
      obtain ⟨i, j, ds, rfl, rfl, hD, hO, hF⟩ := hrel
      have hij := hD.lt
      have hjl := hD.le
      by_cases hlt : j < zs.length
      · obtain ⟨x, hx⟩ := get_of_lt hlt
        obtain ⟨b, off, x', eb, hlb, hx', c0, c1, c2, c3, c4⟩ := (edits_of_own hO).1.at_ (k := j) (by rw [hD.len]; exact hlt)
        injection eb with eb
        injection eb with e1 e2 e3
        subst e1
        subst e2
        rw [hD.at_ hx] at hx'
        injection hx' with hx'
        subst hx'
        rw [Nat.zero_add] at c0 c1 c2 c3 c4
        have hal : Below wr.heap.size wr (wr.alloc (.cells #[.int .i64 x.at_, .int .i64 x.ln.op, .int .i64 x.ln.to, .int .i64 x.ln.a, .int .i64 x.ln.b] 58)) := (Below.refl _ _).alloc (Nat.le_refl _) _
        have HAl := Lib.hid (Off.low (g := g) hal)
        have HF := Lib.hid (HC.out _ (hF.trans (Off.low hal)) x)
        have hO := own_below hO hal (Nat.le_refl _)
        have hi : i < ds.length := by rw [hD.len]; omega
        have HX := Lib.hid hx
        have HD := Lib.hid hD
        have HO := Lib.hid hO
        have HW := Lib.hid (hF.trans (Off.low hal))
        have HOne := Lib.hid (one_ed x)
        clear hx hD hO hF hal
        cases hn : F x
        · have HD2 := Lib.hid (HD.out.keep HX.out hn)
          rw [hn] at HF
          clear hn
          go_wp2_with fail
          refine HF.out.mono ?_
          rintro e w1 ⟨rfl, hB1⟩
          have HO1 := Lib.hid (own_below HO.out hB1 (Nat.le_refl _))
          have HW1 := Lib.hid (HW.out.trans (Off.low hB1))
          have hbx := hp_below (hp_new (w := wr) (o := .cells #[.int .i64 x.at_, .int .i64 x.ln.op, .int .i64 x.ln.to, .int .i64 x.ln.a, .int .i64 x.ln.b] 58 (0, 0)) rfl) hB1 (by simp)
          have v0 := hp_cell hbx (j := 0) (by rfl)
          have v1 := hp_cell hbx (j := 1) (by rfl)
          have v2 := hp_cell hbx (j := 2) (by rfl)
          have v3 := hp_cell hbx (j := 3) (by rfl)
          have v4 := hp_cell hbx (j := 4) (by rfl)
          clear hbx
          have HTh := Lib.hid (own_thereE HO1.out hi)
          have HPL := Lib.hid (own_setEditC HO1.out hi x)
          have HW2 := Lib.hid (HW1.out.trans (Off.setCells g w1 (i * 5) [.int .i64 x.at_, .int .i64 x.ln.op, .int .i64 x.ln.to, .int .i64 x.ln.a, .int .i64 x.ln.b]))
          clear hB1 c0 c1 c2 c3 c4
          go_wp2_with (refine wpList_store_mid rfl 58 (.tmp 33) (.tmp 32) rfl g (i * 5) #[.int .i64 x.at_, .int .i64 x.ln.op, .int .i64 x.ln.to, .int .i64 x.ln.a, .int .i64 x.ln.b] rfl rfl ?ht info_ed5 HOne.out ?_)
          case ht => exact HTh.out
          generalize w1.setCells g (i * 5) [.int .i64 x.at_, .int .i64 x.ln.op, .int .i64 x.ln.to, .int .i64 x.ln.a, .int .i64 x.ln.b] = W2 at *
          go_roundw
          case rel => exact ⟨i + 1, j + 1, _, by go_num, by go_num, HD2.out, HPL.out, HW2.out⟩
          case measure => simp [intOf]; omega
        · have HD2 := Lib.hid (HD.out.skip HX.out hn)
          rw [hn] at HF
          clear hn
          go_wp2_with fail
          refine HF.out.mono ?_
          rintro e w1 ⟨rfl, hB1⟩
          have HO1 := Lib.hid (own_below HO.out hB1 (Nat.le_refl _))
          have HW1 := Lib.hid (HW.out.trans (Off.low hB1))
          clear hB1 c0 c1 c2 c3 c4
          go_wp2_with fail
          go_roundw
          case rel => exact ⟨i, j + 1, _, rfl, by go_num, HD2.out, HO1.out, HW1.out⟩
          case measure => simp [intOf]; omega
      · obtain rfl : j = zs.length := by omega
        have HE := Lib.hid hD.done
        obtain ⟨cur, hcl, hown⟩ := own_clear (t := 27) (e := 58) (z := .agg #[.int .i64 0, .int .i64 0, .int .i64 0, .int .i64 0, .int .i64 0]) (k := 5) Tryz.underlying27 Tryz.zeroValue58 one_edV.1 one_edV.2 hO (show i < zs.length from hij) (by decide) (c - i) 0
        have hil : i = (zs.filter fun x => !F x).length := by rw [← HE.out, List.length_take, hD.len]; omega
        rw [← ec_takeA, HE.out] at hown
        have HIL := Lib.hid hil
        clear hil
        have HW := Lib.hid (hF.trans (Off.setRow g wr cur))
        have HOW := Lib.hid hown
        clear hD hO hF hown HE HC
        have hci : ¬ c = i := by omega
        go_wp2_with fail
        go_ret
        have HOW := HOW.out
        have HIL := HIL.out
        rw [← HIL]
        exact ⟨rfl, HOW, HW.out⟩

set_option maxHeartbeats 1000000 in
theorem delAlNil_any (P B : Nat) (F : E → Bool) (w : World) (hC : ∀ W, Below w.heap.size w W → ∀ n, Calls Tryz.prog 39 #[.agg (eV n), .pointer (some ⟨P, 0, none⟩), .pointer (some ⟨B, 0, none⟩)] W fun e w' => e = .returned (.bool (F n)) ∧ Below W.heap.size W w') :
    Calls Tryz.prog 37 #[.slice none 0 0, .func (.func 39) #[] #[.pointer (some ⟨P, 0, none⟩), .pointer (some ⟨B, 0, none⟩)]] w fun e w' => e = .returned (.slice none 0 0) ∧ Below w.heap.size w w' := by
  have HI := Lib.hid (idxAl_any P B F none 0 [] w (.inl rfl) (by decide) hC)
  rw [show idxF F [] = -1 from rfl] at HI
  clear hC
  go_enter Tryz.func37, Tryz.ntmps37
  go_wp2_with fail
  refine HI.out.mono ?_
  rintro e w1 ⟨rfl, hB⟩
  have HB := Lib.hid hB
  clear hB
  go_wp2_with fail
  go_ret
  exact ⟨rfl, HB.out⟩
/-- slices.DeleteFunc, be the list nil or not. -/
theorem delAlO_any (P B base c : Nat) (a : Option Addr) (F : E → Bool) (zs : List E) (w : World) (hO : w.ownsRow base 58 5 (.slice a zs.length c) zs.length (ec zs)) (hm : zs.length ≤ 100000) (hb : base ≤ w.heap.size)
    (hC : ∀ W, Below base w W → ∀ n, Calls Tryz.prog 39 #[.agg (eV n), .pointer (some ⟨P, 0, none⟩), .pointer (some ⟨B, 0, none⟩)] W fun e w' => e = .returned (.bool (F n)) ∧ Below W.heap.size W w') :
    Calls Tryz.prog 37 #[.slice a zs.length c, .func (.func 39) #[] #[.pointer (some ⟨P, 0, none⟩), .pointer (some ⟨B, 0, none⟩)]] w fun e w' =>
      ∃ a' c', e = .returned (.slice a' (zs.filter fun x => !F x).length c') ∧ w'.ownsRow base 58 5 (.slice a' (zs.filter fun x => !F x).length c') (zs.filter fun x => !F x).length (ec (zs.filter fun x => !F x)) ∧ Below base w w' := by
  cases a with
  | none =>
    have hz := (edits_of_own hO).1.none
    have hc := own_nil hO rfl
    subst hz hc
    refine (delAlNil_any P B F w fun W hW => hC W (hW.mono hb)).mono ?_
    rintro e w' ⟨rfl, hB⟩
    exact ⟨none, 0, rfl, World.ownsRow_nil _ _ _ _, hB.mono hb⟩
  | some ad =>
    have had : ∃ g, ad = ⟨g, 0, none⟩ := by
      rcases hO.2 with ⟨he, _⟩ | ⟨g', cap, cur, he, _⟩
      · cases he
      · injection he with h1
        injection h1 with h1
        exact ⟨g', h1⟩
    obtain ⟨g, rfl⟩ := had
    refine (delAl_any P B g base c F zs w hO hm fun W hW => hC W (hW.below (own_base' hO) hb)).mono ?_
    rintro e w' ⟨rfl, hO', hF⟩
    exact ⟨_, _, rfl, hO', hF.below (own_base' hO) hb⟩

end Go.Proofs.YtplmpennafcbfaaGreat

/- Alive, killers of seek: contracts. -/
set_option linter.unusedVariables false
set_option linter.unusedSimpArgs false
namespace Go.Proofs.YtplmpennafcbfaaGreat
open Go.RowKit Go.Shelf Tinker

set_option maxRecDepth 100000 in
set_option maxHeartbeats 2000000 in
theorem skillsG_any (a h : Option Addr) (ca ch : Nat) (ps : List L) (ts : List T) (m : E) (w : World) (hp : LinesAt w a ps) (hts : TestsAt w h ts) (hm : ps.length ≤ 1000) (hm2 : ts.length ≤ 1000) (hml : ∀ t ∈ ts, t.inn.length ≤ 1000) :
    Calls Tryz.prog 40 #[.slice a ps.length ca, .slice h ts.length ch, .agg (eV m)] w (GivesInts (trR true ps [m] ts) w) := by
  have H1 := Lib.hid (fun g w h1 h2 h3 => pBreaks_any a g h ca 1 ch ps [m] ts w h1 h2 h3 (by simp) hm2 hml hm)
  simp only [List.length_cons, List.length_nil, Nat.zero_add] at H1
  generalize trR true ps [m] ts = R at *
  generalize vpx ps [m] (vts ts) = q at *
  obtain ⟨W0, hW0⟩ : ∃ W, W = w.alloc (.cells (eV m) 58) := ⟨_, rfl⟩
  have hb : Below w.heap.size w W0 := by rw [hW0]; exact (Below.refl _ _).alloc (Nat.le_refl _) _
  have hX : W0.heap[w.heap.size]? = some (.cells (eV m) 58 (0, 0)) := by rw [hW0]; exact hp_new rfl
  have x0 := hp_cell hX (j := 0) (by rfl)
  have x1 := hp_cell hX (j := 1) (by rfl)
  have x2 := hp_cell hX (j := 2) (by rfl)
  have x3 := hp_cell hX (j := 3) (by rfl)
  have x4 := hp_cell hX (j := 4) (by rfl)
  have HX := Lib.hid (edit_size hW0)
  have hal := (Below.refl W0.heap.size W0).alloc (Nat.le_refl _) (.cells (eV m) 58)
  have HP := Lib.hid ((hp.below hb (Nat.le_refl _)).below hal (Nat.le_refl _))
  have HT := Lib.hid ((hts.below hb (Nat.le_refl _)).below hal (Nat.le_refl _))
  have HB := Lib.hid (hb.trans (hal.mono hb.size))
  clear hml hb hX hal hp hts
  unfold eV at hW0 HX HP HT HB ⊢
  go_enter Tryz.func40, Tryz.ntmps40
  rw [hW0] at x0 x1 x2 x3 x4
  go_wp2_with fail
  rw [← hW0]
  clear hW0
  refine (H1.out _ _ HP.out HX.out HT.out).mono ?_
  rintro e w1 ⟨a1, k1, rfl, hq, hB⟩
  have HO := Lib.hid (own_mono hq HB.out.size)
  have HB := Lib.hid (HB.out.trans (hB.mono HB.out.size))
  clear hq hB x0 x1 x2 x3 x4
  go_wp2_with fail
  go_ret
  exact ⟨_, _, rfl, HO.out, HB.out⟩

set_option maxRecDepth 100000 in
set_option maxHeartbeats 2000000 in
theorem alive1_any (P B : Nat) (a h : Option Addr) (ca ch : Nat) (ps : List L) (ts : List T) (x : E) (w : World) (hP : w.cell? ⟨P, 0, none⟩ = some (.slice a ps.length ca)) (hB : w.cell? ⟨B, 0, none⟩ = some (.slice h ts.length ch)) (bP : P < w.heap.size) (bB : B < w.heap.size) (hp : LinesAt w a ps) (hts : TestsAt w h ts) (hm : ps.length ≤ 1000) (hm2 : ts.length ≤ 1000) (hml : ∀ t ∈ ts, t.inn.length ≤ 1000) :
    Calls Tryz.prog 39 #[.agg (eV x), .pointer (some ⟨P, 0, none⟩), .pointer (some ⟨B, 0, none⟩)] w fun e w' => e = .returned (.bool (alB ps ts x)) ∧ Below w.heap.size w w' := by
  have H1 := Lib.hid (fun w h1 h2 => skillsG_any a h ca ch ps ts x w h1 h2 hm hm2 hml)
  obtain ⟨W0, hW0⟩ : ∃ W, W = w.alloc (.cells (eV x) 58) := ⟨_, rfl⟩
  have hb : Below w.heap.size w W0 := by rw [hW0]; exact (Below.refl _ _).alloc (Nat.le_refl _) _
  have hX : W0.heap[w.heap.size]? = some (.cells (eV x) 58 (0, 0)) := by rw [hW0]; exact hp_new rfl
  have x0 := hp_cell hX (j := 0) (by rfl)
  have x1 := hp_cell hX (j := 1) (by rfl)
  have x2 := hp_cell hX (j := 2) (by rfl)
  have x3 := hp_cell hX (j := 3) (by rfl)
  have x4 := hp_cell hX (j := 4) (by rfl)
  have p0 := (hb.cell (p := ⟨P, 0, none⟩) bP).trans hP
  have b0 := (hb.cell (p := ⟨B, 0, none⟩) bB).trans hB
  have HP := Lib.hid (hp.below hb (Nat.le_refl _))
  have HT := Lib.hid (hts.below hb (Nat.le_refl _))
  have HB := Lib.hid hb
  unfold alB
  generalize trR true ps [x] ts = R at *
  obtain ⟨r, hr⟩ : ∃ r, decide (0 < R.length) = r := ⟨_, rfl⟩
  have hr2 : decide (0 < (R.length : Int)) = r := by rw [← hr]; simp
  rw [hr]
  clear hml hb hX hp hts hP hB bP bB
  unfold eV at hW0 H1 ⊢
  go_enter Tryz.func39, Tryz.ntmps39
  rw [hW0] at p0 b0 x0 x1 x2 x3 x4
  go_wp2_with fail
  rw [← hW0]
  clear hW0
  refine (H1.out _ HP.out HT.out).mono ?_
  rintro e w1 ⟨a1, k1, rfl, hq, hB⟩
  have HB := Lib.hid (HB.out.trans (hB.mono HB.out.size))
  clear hq hB x0 x1 x2 x3 x4 p0 b0
  go_wp2_with fail
  go_ret
  exact ⟨rfl, HB.out⟩

set_option maxRecDepth 100000 in
set_option maxHeartbeats 4000000 in
theorem sAlive_any (a h : Option Addr) (ca ch : Nat) (ps : List L) (ts : List T) (w : World) (hp : LinesAt w a ps) (hts : TestsAt w h ts) (hm : ps.length ≤ 1000) (hm2 : ts.length ≤ 1000) (hml : ∀ t ∈ ts, t.inn.length ≤ 1000) :
    Calls Tryz.prog 17 #[.slice a ps.length ca, .slice h ts.length ch] w (GivesEditsE (alR ps ts) (alC ps ts) w) := by
  have H1 := Lib.hid (fun w h1 h2 => sValidateTests_any a h ca ch ps ts w h1 h2 hm hm2 hml)
  have HF1 := Lib.hid (fun P B x w b1 b2 b3 b4 b5 b6 => alive1_any P B a h ca ch ps ts x w b1 b2 b3 b4 b5 b6 hm hm2 hml)
  obtain ⟨W0, hW0⟩ : ∃ W, W = (w.alloc (.cells #[.slice a ps.length ca] 22)).alloc (.cells #[.slice h ts.length ch] 23) := ⟨_, rfl⟩
  have hb : Below w.heap.size w W0 := by rw [hW0]; exact ((Below.refl _ _).alloc (Nat.le_refl _) _).alloc (by simp) _
  have HX1 := Lib.hid (show W0.heap[w.heap.size]? = some (.cells #[.slice a ps.length ca] 22 (0, 0)) by rw [hW0]; exact hp_alloc (hp_new rfl))
  have HX2 := Lib.hid (show W0.heap[w.heap.size + 1]? = some (.cells #[.slice h ts.length ch] 23 (0, 0)) by rw [hW0]; exact hp_new (by simp))
  have x1 := hp_cell HX1.out (j := 0) (by rfl)
  have x2 := hp_cell HX2.out (j := 0) (by rfl)
  have HB0 := Lib.hid hb
  have HP := Lib.hid (hp.below hb (Nat.le_refl _))
  have HT := Lib.hid (hts.below hb (Nat.le_refl _))
  have HK := Lib.hid (show ∀ W, Below W0.heap.size W0 W → ∀ x, Calls Tryz.prog 39 #[.agg (eV x), .pointer (some ⟨w.heap.size, 0, none⟩), .pointer (some ⟨w.heap.size + 1, 0, none⟩)] W fun e w' => e = .returned (.bool (alB ps ts x)) ∧ Below W.heap.size W w' from fun W hW x =>
    HF1.out w.heap.size (w.heap.size + 1) x W ((hW.cell (p := ⟨w.heap.size, 0, none⟩) (hp_lt HX1.out)).trans x1) ((hW.cell (p := ⟨w.heap.size + 1, 0, none⟩) (hp_lt HX2.out)).trans x2) (Nat.lt_of_lt_of_le (hp_lt HX1.out) hW.size) (Nat.lt_of_lt_of_le (hp_lt HX2.out) hW.size) (HP.out.below hW (Nat.le_refl _)) (HT.out.below hW (Nat.le_refl _)))
  have HD := Lib.hid (fun (base c : Nat) aq (zs : List E) (w1 : World) h1 h2 h3 h4 => delAlO_any w.heap.size (w.heap.size + 1) base c aq (alB ps ts) zs w1 h1 h2 h3 h4)
  by_cases hz : alC ps ts = 0
  · obtain ⟨v1, v2⟩ := alC_ok hz
    have H2 := Lib.hid (fun w h => smutants_any a ca ps w h v1)
    have hl := edL_len20 v1
    have HE := Lib.hid (show alR ps ts = (edL ps 0).filter fun e => !alB ps ts e by unfold alR; rw [if_pos hz]; rfl)
    have hz2 : feL [vp ps, vts ts] = 0 := hz
    rw [HE.out, hz]
    rw [hz2] at H1
    generalize edL ps 0 = XS at *
    generalize alB ps ts = F at *
    clear hz hz2 v1 v2 hp hts hml hb HF1
    go_enter Tryz.func17, Tryz.ntmps17
    rw [hW0] at x1 x2
    go_wp2_with fail
    rw [← hW0]
    clear hW0 x1 x2
    refine (H1.out _ HP.out HT.out).mono ?_
    rintro e w1 ⟨rfl, hB⟩
    have x1 := hp_cell (hp_below HX1.out hB (hp_lt HX1.out)) (j := 0) (by rfl)
    have x2 := hp_cell (hp_below HX2.out hB (hp_lt HX2.out)) (j := 0) (by rfl)
    have HB1 := Lib.hid hB
    clear hB
    go_wp2_with fail
    refine (H2.out _ (HP.out.below HB1.out (Nat.le_refl _))).mono ?_
    rintro e w2 ⟨aq, cq, rfl, hq, hB⟩
    have HO := Lib.hid (own_mono hq HB1.out.size)
    have HB2 := Lib.hid (HB1.out.trans (hB.mono HB1.out.size))
    clear hB hq x1 x2
    go_wp2_with fail
    refine (HD.out W0.heap.size cq aq XS w2 HO.out (by omega) HB2.out.size (fun W hW x => HK.out W (HB2.out.trans (hW.mono (Nat.le_refl _))) x)).mono ?_
    rintro e w3 ⟨a9, c9, rfl, hO9, hB9⟩
    have HO9 := Lib.hid (own_mono hO9 HB0.out.size)
    have HB9 := Lib.hid (HB0.out.trans ((HB2.out.trans hB9).mono HB0.out.size))
    clear hO9 hB9
    go_wp2_with fail
    go_ret2
    exact ⟨_, _, rfl, HO9.out, HB9.out⟩
  · rw [show alR ps ts = [] by unfold alR; rw [if_neg hz]]
    unfold alC at hz ⊢
    generalize feL [vp ps, vts ts] = q at *
    have hq1 : (q != 0) = true := by simpa using hz
    clear hz hp hts hml hb HF1 HK HD
    go_enter Tryz.func17, Tryz.ntmps17
    rw [hW0] at x1 x2
    go_wp2_with fail
    rw [← hW0]
    clear hW0 x1 x2
    refine (H1.out _ HP.out HT.out).mono ?_
    rintro e w1 ⟨rfl, hB⟩
    have HB1 := Lib.hid (HB0.out.trans (hB.mono HB0.out.size))
    clear hB
    go_wp2_with fail
    go_ret2
    exact givesEditsE_nil HB1.out

theorem info_intsA : (Tryz.prog.info? 43).map (fun i => (i.zero, i.size, i.bytes)) = some (some (.slice none 0 0), 1, 24) := by kernel_rfl
theorem cells_newS (W : World) (v : Value) : ∀ j u, [v][j]? = some u → (W.alloc (.cells #[v] 43)).cell? ((⟨W.heap.size, 0, none⟩ : Addr).add j) = some u := by
  intro j u hu
  have hj : j = 0 := by
    have := (List.getElem?_eq_some_iff.1 hu).1
    simp at this
    omega
  subst hj
  have e : (⟨W.heap.size, 0, none⟩ : Addr).add 0 = ⟨W.heap.size, 0, none⟩ := by simp [Addr.add]
  rw [e]
  exact hp_cell (hp_new rfl) (by simpa using hu)

set_option maxRecDepth 100000 in
set_option maxHeartbeats 4000000 in
theorem skillersN_any (a h : Option Addr) (ca ch : Nat) (ps : List L) (ts : List T) (w : World) (hp : LinesAt w a ps) (hts : TestsAt w h ts) (hv : vp ps = 0) (ht : vts ts = 0) :
    Calls Tryz.prog 45 #[.slice a ps.length ca, .slice h ts.length ch] w fun e w' => (∃ b c, e = .returned (.slice b (kiN ps ts) c)) ∧ Below w.heap.size w w' := by
  obtain ⟨i0, hi, hz0, hz1, hz2⟩ := info_parts info_intsA
  obtain ⟨t8, hT⟩ := vts_ok ht
  have hml : ∀ t ∈ ts, t.inn.length ≤ 1000 := fun t h => by have := (vs_ok (isT_ok (hT t h)).1).1; omega
  have h8 := (vp_ok hv).1
  have H1 := Lib.hid (fun w h => smutants_any a ca ps w h hv)
  have H2 := Lib.hid (fun m w h1 h2 => skillsG_any a h ca ch ps ts m w h1 h2 (by omega) (by omega) hml)
  have hl := edL_len20 hv
  have HP := Lib.hid hp
  have HTS := Lib.hid hts
  have HY := Lib.hid (fun k e (h : (edL ps 0)[k]? = some e) (hb : alB ps ts e = true) => kiT_yes h hb)
  have HN := Lib.hid (fun k e (h : (edL ps 0)[k]? = some e) (hb : alB ps ts e = false) => kiT_no h hb)
  have HAB := Lib.hid (show ∀ e, alB ps ts e = decide (0 < (trR true ps [e] ts).length) from fun _ => rfl)
  have HK0 := Lib.hid (show kiT ps ts 0 = 0 from rfl)
  have HKN := Lib.hid (show kiN ps ts = kiT ps ts (edL ps 0).length from rfl)
  have HKL := Lib.hid (show ∀ k, kiT ps ts k ≤ k from fun k => by unfold kiT; exact Nat.le_trans (List.length_filter_le _ _) (List.length_take_le _ _))
  rw [HKN.out]
  generalize kiT ps ts = kt at *
  generalize alB ps ts = F at *
  generalize edL ps 0 = XS at *
  clear hT hml hv ht hp hts HKN
  go_enter Tryz.func45, Tryz.ntmps45
  go_wp2_with fail
  refine (H1.out _ HP.out).mono ?_
  rintro e w1 ⟨a1, k1, rfl, hq, hB⟩
  have HXS := Lib.hid (edits_of_own hq).1
  have HB0 := Lib.hid hB
  have HP := Lib.hid (HP.out.below hB (Nat.le_refl _))
  have HTS := Lib.hid (HTS.out.below hB (Nat.le_refl _))
  clear hq hB
  go_wp2_with fail
  go_loopw [5, 12] (fun s5 s12 wr => ∃ (k : Nat) (cs : List Value), k ≤ XS.length ∧ s12 = .int .i64 (k : Int) ∧ wr.ownsRow w1.heap.size 43 1 s5 (kt k) cs ∧ Below w1.heap.size w1 wr) (fun _ s12 _ => XS.length - (intOf s12).toNat)
  case atStart => exact ⟨0, [], Nat.zero_le _, rfl, by rw [HK0.out]; exact World.ownsRow_nil _ _ _ _, Below.refl _ _⟩
  case round =>
    obtain ⟨k, cs, hk, rfl, hO, hB⟩ := hrel
    have HO := Lib.hid hO
    have HB := Lib.hid hB
    clear hO hB
    by_cases hlt : k < XS.length
    · have hlt1 : decide ((k : Int) < (XS.length : Int)) = true := decide_eq_true (by omega)
      obtain ⟨b, off, x, rfl, hlb, hx, c0, c1, c2, c3, c4⟩ := (HXS.out.below HB.out (Nat.le_refl _)).at_ hlt
      have HY1 := Lib.hid (HY.out k x hx)
      have HN1 := Lib.hid (HN.out k x hx)
      have H3 := Lib.hid (fun w h1 h2 => H2.out x w h1 h2)
      have hkl := HKL.out k
      have hab := HAB.out x
      have hal : Below wr.heap.size wr (wr.alloc (.cells (eV x) 58)) := (Below.refl _ _).alloc (Nat.le_refl _) _
      have HO := Lib.hid (own_below HO.out hal (Nat.le_refl _))
      have HB := Lib.hid (HB.out.trans (hal.mono HB.out.size))
      clear hx hal HY HN HAB H2
      generalize trR true ps [x] ts = R at *
      have hr2 : decide (0 < (R.length : Int)) = F x := by rw [hab]; simp
      have hr1 : decide (0 < R.length) = F x := hab.symm
      unfold eV at H3 HO HB
      clear hab
      cases hF : F x
      · rw [hF] at hr1 hr2
        have HS := Lib.hid (HN1.out hF)
        clear hF
        go_wp2_with fail
        refine (H3.out _ (HP.out.below HB.out (Nat.le_refl _)) (HTS.out.below HB.out (Nat.le_refl _))).mono ?_
        rintro e w2 ⟨a2, k2, rfl, hq, hB⟩
        have HO := Lib.hid (own_below HO.out hB (Nat.le_refl _))
        have HB := Lib.hid (HB.out.trans (hB.mono HB.out.size))
        clear hq hB c0 c1 c2 c3 c4
        go_wp2_with fail
        go_roundw
        case rel => exact ⟨k + 1, cs, by omega, by go_num, by rw [HS.out]; exact HO.out, HB.out⟩
        case measure => simp [intOf]; omega
      · rw [hF] at hr1 hr2
        have HS := Lib.hid (HY1.out hF)
        clear hF
        go_wp2_with fail
        refine (H3.out _ (HP.out.below HB.out (Nat.le_refl _)) (HTS.out.below HB.out (Nat.le_refl _))).mono ?_
        rintro e w2 ⟨a2, k2, rfl, hq, hB⟩
        have HO := Lib.hid (own_below HO.out hB (Nat.le_refl _))
        have HB := Lib.hid (HB.out.trans (hB.mono HB.out.size))
        clear hq hB c0 c1 c2 c3 c4
        obtain ⟨va, vc, rfl⟩ := own_slice HO.out
        have hal2 : Below w2.heap.size w2 (w2.alloc (.cells #[.slice a2 R.length k2] 43)) := (Below.refl _ _).alloc (Nat.le_refl _) _
        have HO2 := Lib.hid (own_below HO.out hal2 (Nat.le_refl _))
        have HB2 := Lib.hid (HB.out.trans (hal2.mono HB.out.size))
        have HC3 := Lib.hid (cells_newS w2 (.slice a2 R.length k2))
        clear hal2 HO HB
        go_wp2_with (at_builtin; (refine wpList_append_own _ rfl (.tmp 23) (.tmp 25) 75 rfl w1.heap.size 43 i0 (.slice none 0 0) 1 24 Tryz.underlying75 hi hz0 hz1 hz2 rfl (by decide) (.slice va (kt k) vc) (kt k) cs rfl HO2.out ⟨w2.heap.size, 0, none⟩ 1 1 [.slice a2 R.length k2] rfl rfl ?c1 ?c2 ?c3 ?c4 ?c5 ?_))
        case c1 => first | exact HC3.out | (intro j u hu; simpa using hu)
        case c2 => simp [Value.oneCell']
        case c3 => simp [maxLen]; omega
        case c4 => omega
        case c5 => first | exact HB2.out.size | (have h9 := HB2.out.size; simp at h9; omega)
        intro v' w5 hown hgrow _
        have HB5 := Lib.hid (HB2.out.grown hgrow HB2.out.size (by rintro k hk; exact (HO2.out.lt k hk).1))
        have HO5 := Lib.hid hown
        clear hown hgrow
        go_wp2_with fail
        go_roundw
        case rel => exact ⟨k + 1, _, by omega, by go_num, by rw [HS.out]; exact HO5.out, HB5.out⟩
        case measure => simp [intOf]; omega
    · obtain rfl : k = XS.length := by omega
      have hlt1 : decide ((XS.length : Int) < (XS.length : Int)) = false := decide_eq_false (by omega)
      obtain ⟨va, vc, rfl⟩ := own_slice HO.out
      have HBE := Lib.hid (HB0.out.trans (HB.out.mono HB0.out.size))
      go_wp2_with fail
      go_ret
      exact ⟨⟨va, vc, rfl⟩, HBE.out⟩

end Go.Proofs.YtplmpennafcbfaaGreat

/- Score of seek; Alive, Ratio, Score of the document: contracts. -/
set_option linter.unusedVariables false
set_option linter.unusedSimpArgs false
namespace Go.Proofs.YtplmpennafcbfaaGreat
open Go.RowKit Go.Shelf Tinker

theorem size_rat : (Tryz.prog.info? 40).map (·.size) = some 2 := by kernel_rfl
set_option maxRecDepth 100000 in
set_option maxHeartbeats 4000000 in
theorem sScore_any (a h : Option Addr) (ca ch : Nat) (ps : List L) (ts : List T) (w : World) (hp : LinesAt w a ps) (hts : TestsAt w h ts) (hm : ps.length ≤ 1000) (hm2 : ts.length ≤ 1000) (hml : ∀ t ∈ ts, t.inn.length ≤ 1000) :
    Calls Tryz.prog 19 #[.slice a ps.length ca, .slice h ts.length ch] w fun e w' => e = .returned (.tuple #[.agg #[.int .i64 (scA ps ts), .int .i64 (scB ps ts)], .int .i64 (scC ps ts)]) ∧ Below w.heap.size w w' := by
  have H1 := Lib.hid (fun w h1 h2 => sValidateTests_any a h ca ch ps ts w h1 h2 hm hm2 hml)
  have HP := Lib.hid hp
  have HT := Lib.hid hts
  have HR0 := Lib.hid (hp_new (w := w) (o := .cells #[.int .i64 0, .int .i64 0] 40 (0, 0)) rfl)
  have HB0 := Lib.hid ((Below.refl w.heap.size w).alloc (Nat.le_refl _) (.cells #[.int .i64 0, .int .i64 0] 40))
  by_cases hz : alC ps ts = 0
  · obtain ⟨v1, v2⟩ := alC_ok hz
    have H2 := Lib.hid (fun w h => smutants_any a ca ps w h v1)
    have hz2 : feL [vp ps, vts ts] = 0 := hz
    rw [hz2] at H1
    by_cases hl : (edL ps 0).length = 0
    · have e1 : scC ps ts = 8 := by unfold scC; rw [if_pos hz, if_pos hl]
      rw [show scA ps ts = 0 by unfold scA; rw [e1]; rfl, show scB ps ts = 0 by unfold scB; rw [e1]; rfl, e1]
      rw [List.length_eq_zero_iff] at hl
      rw [hl] at H2
      clear hz hz2 hl v1 v2 hp hts hml e1
      go_enter Tryz.func19, Tryz.ntmps19
      go_wp2_with fail
      refine (H1.out _ (HP.out.below HB0.out (Nat.le_refl _)) (HT.out.below HB0.out (Nat.le_refl _))).mono ?_
      rintro e w1 ⟨rfl, hB⟩
      have HR1 := Lib.hid (hp_below HR0.out hB (hp_lt HR0.out))
      have HB1 := Lib.hid (HB0.out.trans (hB.mono HB0.out.size))
      clear hB
      go_wp2_with fail
      refine (H2.out _ (HP.out.below HB1.out (Nat.le_refl _))).mono ?_
      rintro e w2 ⟨aq, cq, rfl, hq, hB⟩
      have HR2 := Lib.hid (hp_below HR1.out hB (hp_lt HR1.out))
      have HB2 := Lib.hid (HB1.out.trans (hB.mono HB1.out.size))
      clear hB hq
      have z0 := hp_cell HR2.out (j := 0) (by rfl)
      have z1 := hp_cell HR2.out (j := 1) (by rfl)
      have f0 := hp_free HR2.out 0
      have f1 := hp_free HR2.out 1
      go_wp2_with fail
      refine bodyPost_ret (v := .tuple #[.agg #[.int .i64 0, .int .i64 0], .int .i64 8]) ?_ rfl ⟨rfl, ((HB2.out.setCell (p := ⟨w.heap.size, _, none⟩) (Nat.le_refl _) _).setCell (p := ⟨w.heap.size, _, none⟩) (Nat.le_refl _) _)⟩
      exact results_cell_tmp5 (p := 4) (ty := 40) rfl _ _ w.heap.size 40 _ (0, 0) (by rfl) (hp_put (hp_put HR2.out 0 _) 1 _) Tryz.underlying40 size_rat rfl
    · have e1 : scC ps ts = 0 := by unfold scC; rw [if_pos hz, if_neg hl]
      have H3 := Lib.hid (fun w h1 h2 => skillersN_any a h ca ch ps ts w h1 h2 v1 v2)
      have hle := edL_len20 v1
      have k1 := kiN_al ps ts
      have H4 := Lib.hid (fun w => fraction_any (kiN ps ts) (edL ps 0).length w (by omega) (by omega) (by omega))
      rw [show scA ps ts = fracA (kiN ps ts) (edL ps 0).length by unfold scA; rw [if_pos e1], show scB ps ts = fracB (kiN ps ts) (edL ps 0).length by unfold scB; rw [if_pos e1], e1]
      generalize fracA (kiN ps ts) (edL ps 0).length = qa at *
      generalize fracB (kiN ps ts) (edL ps 0).length = qb at *
      generalize kiN ps ts = kn at *
      generalize edL ps 0 = XS at *
      have hl1 : ((XS.length : Int) == 0) = false := beq_eq_false_iff_ne.2 (by omega)
      have hl2 : decide ((XS.length : Int) = 0) = false := decide_eq_false (by omega)
      clear hz hz2 v1 v2 hp hts hml e1 k1
      go_enter Tryz.func19, Tryz.ntmps19
      go_wp2_with fail
      refine (H1.out _ (HP.out.below HB0.out (Nat.le_refl _)) (HT.out.below HB0.out (Nat.le_refl _))).mono ?_
      rintro e w1 ⟨rfl, hB⟩
      have HR1 := Lib.hid (hp_below HR0.out hB (hp_lt HR0.out))
      have HB1 := Lib.hid (HB0.out.trans (hB.mono HB0.out.size))
      clear hB
      go_wp2_with fail
      refine (H2.out _ (HP.out.below HB1.out (Nat.le_refl _))).mono ?_
      rintro e w2 ⟨aq, cq, rfl, hq, hB⟩
      have HR2 := Lib.hid (hp_below HR1.out hB (hp_lt HR1.out))
      have HB2 := Lib.hid (HB1.out.trans (hB.mono HB1.out.size))
      clear hB hq
      go_wp2_with fail
      refine (H3.out _ (HP.out.below HB2.out (Nat.le_refl _)) (HT.out.below HB2.out (Nat.le_refl _))).mono ?_
      rintro e w3 ⟨⟨b3, c3, rfl⟩, hB⟩
      have HR3 := Lib.hid (hp_below HR2.out hB (hp_lt HR2.out))
      have HB3 := Lib.hid (HB2.out.trans (hB.mono HB2.out.size))
      clear hB
      go_wp2_with fail
      refine (H4.out _).mono ?_
      rintro e w4 ⟨rfl, hB⟩
      have HR4 := Lib.hid (hp_below HR3.out hB (hp_lt HR3.out))
      have HB4 := Lib.hid (HB3.out.trans (hB.mono HB3.out.size))
      clear hB
      have z0 := hp_cell HR4.out (j := 0) (by rfl)
      have z1 := hp_cell HR4.out (j := 1) (by rfl)
      have f0 := hp_free HR4.out 0
      have f1 := hp_free HR4.out 1
      go_wp2_with fail
      refine bodyPost_ret (v := .tuple #[.agg #[.int .i64 qa, .int .i64 qb], .int .i64 0]) ?_ rfl ⟨rfl, ((HB4.out.setCell (p := ⟨w.heap.size, _, none⟩) (Nat.le_refl _) _).setCell (p := ⟨w.heap.size, _, none⟩) (Nat.le_refl _) _)⟩
      exact results_cell_tmp5 (p := 4) (ty := 40) rfl _ _ w.heap.size 40 _ (0, 0) (by rfl) (hp_put (hp_put HR4.out 0 _) 1 _) Tryz.underlying40 size_rat rfl
  · have e1 : scC ps ts = alC ps ts := by unfold scC; rw [if_neg hz]
    rw [show scA ps ts = 0 by unfold scA; rw [if_neg (by rw [e1]; exact hz)], show scB ps ts = 0 by unfold scB; rw [if_neg (by rw [e1]; exact hz)], e1]
    unfold alC at hz ⊢
    clear e1
    generalize feL [vp ps, vts ts] = q at *
    have hq1 : (q != 0) = true := by simpa using hz
    clear hz hp hts hml
    go_enter Tryz.func19, Tryz.ntmps19
    go_wp2_with fail
    refine (H1.out _ (HP.out.below HB0.out (Nat.le_refl _)) (HT.out.below HB0.out (Nat.le_refl _))).mono ?_
    rintro e w1 ⟨rfl, hB⟩
    have HR1 := Lib.hid (hp_below HR0.out hB (hp_lt HR0.out))
    have HB1 := Lib.hid (HB0.out.trans (hB.mono HB0.out.size))
    clear hB
    have z0 := hp_cell HR1.out (j := 0) (by rfl)
    have z1 := hp_cell HR1.out (j := 1) (by rfl)
    have f0 := hp_free HR1.out 0
    have f1 := hp_free HR1.out 1
    go_wp2_with fail
    refine bodyPost_ret (v := .tuple #[.agg #[.int .i64 0, .int .i64 0], .int .i64 q]) ?_ rfl ⟨rfl, ((HB1.out.setCell (p := ⟨w.heap.size, _, none⟩) (Nat.le_refl _) _).setCell (p := ⟨w.heap.size, _, none⟩) (Nat.le_refl _) _)⟩
    exact results_cell_tmp5 (p := 4) (ty := 40) rfl _ _ w.heap.size 40 _ (0, 0) (by rfl) (hp_put (hp_put HR1.out 0 _) 1 _) Tryz.underlying40 size_rat rfl
set_option maxRecDepth 100000 in
set_option maxHeartbeats 2000000 in
theorem ratio5_any (n d : Nat) (w : World) (hn : n ≤ 1000) (hd : d ≤ 1000) (h0 : 1 ≤ d) :
    Calls Tryz.prog 46 #[.int .i64 (n : Int), .int .i64 (d : Int)] w fun e w' => e = .returned (.agg #[.int .i64 (fracA n d), .int .i64 (fracB n d)]) ∧ Below w.heap.size w w' := by
  go_enter Tryz.func46, Tryz.ntmps46
  go_wp2_with fail
  go_loopw [5, 6] (fun s5 s6 wr => ∃ x y : Nat, s5 = .int .i64 (x : Int) ∧ s6 = .int .i64 (y : Int) ∧ Nat.gcd x y = Nat.gcd n d ∧ x ≤ 1000 ∧ y ≤ 1000 ∧ wr.heap[w.heap.size]? = some (.cells #[.int .i64 0, .int .i64 0] 40 (0, 0)) ∧ Below w.heap.size w wr) (fun _ s6 _ => (intOf s6).toNat)
  case atStart => exact ⟨n, d, rfl, rfl, rfl, hn, hd, hp_new rfl, (Below.refl _ _).alloc (Nat.le_refl _) _⟩
  case round =>
    obtain ⟨x, y, rfl, rfl, hg, hx, hy, hb, hB⟩ := hrel
    have HG := Lib.hid hg
    have HBL := Lib.hid hb
    have HB := Lib.hid hB
    clear hg hb hB
    by_cases hlt : 0 < y
    · have hy0 : (0 : Int) < (y : Int) := by omega
      have hyne : ((y : Int) == 0) = false := by simp; omega
      have hyne1 : ((y : Int) != 0) = true := by simp; omega
      have hyne2 : (y : Int) ≠ 0 := by omega
      go_wp2_with fail
      go_roundw
      case rel => exact ⟨y, x % y, rfl, by rw [Int.natCast_emod], by rw [Nat.gcd_comm, ← Nat.gcd_rec, Nat.gcd_comm]; exact HG.out, hy, by have := Nat.mod_lt x hlt; omega, HBL.out, HB.out⟩
      case measure =>
        have := Nat.mod_lt x hlt
        simp [intOf]
        omega
    · have : y = 0 := by omega
      subst this
      have hx1 : 1 ≤ x := by
        have := HG.out
        rw [Nat.gcd_zero_right] at this
        rw [this]
        exact Nat.gcd_pos_of_pos_right _ h0
      have hxne : ((x : Int) == 0) = false := by simp; omega
      have hxne2 : (x : Int) ≠ 0 := by omega
      have c0 := hp_cell HBL.out (j := 0) (by rfl)
      have c1 := hp_cell HBL.out (j := 1) (by rfl)
      have f0 := hp_free HBL.out 0
      have f1 := hp_free HBL.out 1
      go_wp2_with fail
      go_region
      all_goals go_wp2_with fail
      have q1 : wrap64 ((n : Int) / (x : Int)) = fracA n d := by
        have hg := HG.out
        rw [Nat.gcd_zero_right] at hg
        unfold fracA
        rw [← hg, ← Int.natCast_ediv]
        have := Nat.div_le_self n x
        generalize n / x = q at this ⊢
        unfold wrap64; omega
      have q2 : wrap64 ((d : Int) / (x : Int)) = fracB n d := by
        have hg := HG.out
        rw [Nat.gcd_zero_right] at hg
        unfold fracB
        rw [← hg, ← Int.natCast_ediv]
        have := Nat.div_le_self d x
        generalize d / x = q at this ⊢
        unfold wrap64; omega
      rw [q1, q2]
      refine bodyPost_ret (v := .agg #[.int .i64 (fracA n d), .int .i64 (fracB n d)]) ?_ rfl ⟨rfl, ((HB.out.setCell (p := ⟨w.heap.size, _, none⟩) (Nat.le_refl _) _).setCell (p := ⟨w.heap.size, _, none⟩) (Nat.le_refl _) _).drew⟩
      exact results_cell_row (p := 4) (ty := 40) rfl _ _ w.heap.size 40 _ (0, 0) _ (by rfl) (hp_put (hp_put HBL.out 0 _) 1 _) Tryz.underlying40 rfl (by kernel_rfl)



theorem rkillsE_any (a h : Option Addr) (ca ch : Nat) (ps : List L) (ts : List T) (e : E) (w : World) (hp : LinesAt w a ps) (hts : TestsAt w h ts) (hv : vp ps = 0) (ht : vts ts = 0) (he : e ∈ edL ps 0) :
    Calls Tryz.prog 43 #[.slice a ps.length ca, .slice h ts.length ch, .agg (eV e)] w (GivesInts (trR true ps [e] ts) w) := by
  rw [tr_one (edL_ok hv he) ht]
  obtain ⟨i, m, hi, hm, rfl⟩ := edK_mem.1 he
  exact rkills_any a h ca ch ps ts i m w hp hts hv ht hi (cnd_ln hm)

set_option maxRecDepth 100000 in
set_option maxHeartbeats 4000000 in
theorem rAlive_any (a h : Option Addr) (ca ch : Nat) (ps : List L) (ts : List T) (w : World) (hp : LinesAt w a ps) (hts : TestsAt w h ts) :
    Calls Tryz.prog 18 #[.slice a ps.length ca, .slice h ts.length ch] w (GivesEditsE (alR ps ts) (alC ps ts) w) := by
  obtain ⟨i0, hI, hz0, hz1, hz2⟩ := info_parts info_edit
  have H1 := Lib.hid (fun w h1 h2 => rtested5_any a h ca ch ps ts w h1 h2)
  have HP := Lib.hid hp
  have HTS := Lib.hid hts
  by_cases hz : alC ps ts = 0
  · obtain ⟨v1, v2⟩ := alC_ok hz
    have H2 := Lib.hid (fun w h => rmutants_any a ca ps w h v1)
    have H3 := Lib.hid (fun e w h1 h2 he => rkillsE_any a h ca ch ps ts e w h1 h2 v1 v2 he)
    have hl := edL_len20 v1
    have HE := Lib.hid (show alR ps ts = (edL ps 0).filter fun e => !alB ps ts e by unfold alR; rw [if_pos hz]; rfl)
    have HAB := Lib.hid (show ∀ e, (fun e => !alB ps ts e) e = !decide (0 < (trR true ps [e] ts).length) from fun _ => rfl)
    have hzz : feL [vp ps, vts ts] = 0 := hz
    rw [HE.out, hz]
    rw [hzz] at H1
    generalize (fun e => !alB ps ts e) = f at *
    generalize edL ps 0 = XS at *
    clear hz hzz v1 v2 hp hts HE
    go_enter Tryz.func18, Tryz.ntmps18
    go_wp2_with fail
    refine (H1.out _ HP.out HTS.out).mono ?_
    rintro e w0 ⟨rfl, hB⟩
    have HB00 := Lib.hid hB
    have HP := Lib.hid (HP.out.below hB (Nat.le_refl _))
    have HTS := Lib.hid (HTS.out.below hB (Nat.le_refl _))
    clear hB
    go_wp2_with fail
    refine (H2.out _ HP.out).mono ?_
    rintro e w1 ⟨a1, k1, rfl, hq, hB⟩
    have HXS := Lib.hid (edits_of_own hq).1
    have HB0 := Lib.hid (HB00.out.trans (hB.mono HB00.out.size))
    have HP := Lib.hid (HP.out.below hB (Nat.le_refl _))
    have HTS := Lib.hid (HTS.out.below hB (Nat.le_refl _))
    clear hq hB
    go_wp2_with fail
    go_loopw [8, 9] (fun s8 s9 wr => ∃ k : Nat, k ≤ XS.length ∧ s9 = .int .i64 (k : Int) ∧ wr.ownsRow w1.heap.size 58 5 s8 ((XS.take k).filter f).length (ec ((XS.take k).filter f)) ∧ Below w1.heap.size w1 wr) (fun _ s9 _ => XS.length - (intOf s9).toNat)
    case atStart => exact ⟨0, Nat.zero_le _, rfl, World.ownsRow_nil _ _ _ _, Below.refl _ _⟩
    case round =>
      obtain ⟨k, hk, rfl, hO, hB⟩ := hrel
      have HO := Lib.hid hO
      have HB := Lib.hid hB
      clear hO hB
      by_cases hlt : k < XS.length
      · have hlt1 : decide ((k : Int) < (XS.length : Int)) = true := decide_eq_true (by omega)
        obtain ⟨b, off, x, rfl, hlb, hx, c0, c1, c2, c3, c4⟩ := (HXS.out.below HB.out (Nat.le_refl _)).at_ hlt
        have HK := Lib.hid (fun w h1 h2 => H3.out x w h1 h2 (mem_of_get hx))
        have hfl : ((XS.take k).filter f).length ≤ 1000 := Nat.le_trans (List.length_filter_le _ _) (by rw [List.length_take]; omega)
        have HS1 := Lib.hid (show f x = true → (XS.take (k + 1)).filter f = (XS.take k).filter f ++ [x] from fun h => by rw [take_snoc hx, List.filter_append]; simp [h])
        have HS0 := Lib.hid (show f x = false → (XS.take (k + 1)).filter f = (XS.take k).filter f from fun h => by rw [take_snoc hx, List.filter_append]; simp [h])
        have hab := HAB.out x
        clear hx
        generalize trR true ps [x] ts = R at *
        generalize (XS.take k).filter f = LS at *
        have hr1 : ((R.length : Int) == 0) = f x := by
          rw [hab, Bool.eq_iff_iff]
          (simp <;> omega)
        have hr2 : decide ((R.length : Int) = 0) = f x := by
          rw [hab, Bool.eq_iff_iff]
          (simp <;> omega)
        have hr3 : (R.length == 0) = f x := by
          rw [hab, Bool.eq_iff_iff]
          simp
        unfold eV at HK
        clear hab
        cases hF : f x
        · rw [hF] at hr1 hr2 hr3
          have HS := Lib.hid (HS0.out hF)
          clear hF
          go_wp2_with fail
          refine (HK.out _ (HP.out.below HB.out (Nat.le_refl _)) (HTS.out.below HB.out (Nat.le_refl _))).mono ?_
          rintro e w2 ⟨a2, k2, rfl, hq, hB⟩
          have HO := Lib.hid (own_below HO.out hB (Nat.le_refl _))
          have HB := Lib.hid (HB.out.trans (hB.mono HB.out.size))
          clear hq hB c0 c1 c2 c3 c4
          go_wp2_with fail
          go_roundw
          case rel => exact ⟨k + 1, by omega, by go_num, by rw [HS.out]; exact HO.out, HB.out⟩
          case measure => simp [intOf]; omega
        · rw [hF] at hr1 hr2 hr3
          have HS := Lib.hid (HS1.out hF)
          clear hF
          go_wp2_with fail
          refine (HK.out _ (HP.out.below HB.out (Nat.le_refl _)) (HTS.out.below HB.out (Nat.le_refl _))).mono ?_
          rintro e w2 ⟨a2, k2, rfl, hq, hB⟩
          have HO := Lib.hid (own_below HO.out hB (Nat.le_refl _))
          have HB2 := Lib.hid (HB.out.trans (hB.mono HB.out.size))
          replace c0 := (hB.cell (p := ⟨b, _, none⟩) hlb).trans c0
          replace c1 := (hB.cell (p := ⟨b, _, none⟩) hlb).trans c1
          replace c2 := (hB.cell (p := ⟨b, _, none⟩) hlb).trans c2
          replace c3 := (hB.cell (p := ⟨b, _, none⟩) hlb).trans c3
          replace c4 := (hB.cell (p := ⟨b, _, none⟩) hlb).trans c4
          have hlb2 : b < w2.heap.size := Nat.lt_of_lt_of_le hlb hB.size
          clear hq hB HB
          obtain ⟨va, vc, rfl⟩ := own_slice HO.out
          have hal2 : Below w2.heap.size w2 (w2.alloc (.cells (eV x) 58)) := (Below.refl _ _).alloc (Nat.le_refl _) _
          have HO2 := Lib.hid (own_below HO.out hal2 (Nat.le_refl _))
          have HB3 := Lib.hid (HB2.out.trans (hal2.mono HB2.out.size))
          have HCN := Lib.hid (cells_newE w2 x)
          unfold eV at HO2 HB3 HCN
          clear hal2 HO HB2
          go_wp2_with (at_builtin; (refine wpList_append_own _ rfl (.tmp 33) (.tmp 38) 27 rfl w1.heap.size 58 i0 (.agg #[.int .i64 0, .int .i64 0, .int .i64 0, .int .i64 0, .int .i64 0]) 5 40 Tryz.underlying27 hI hz0 hz1 hz2 rfl (by decide) (.slice va LS.length vc) LS.length (ec LS) rfl HO2.out ⟨w2.heap.size, 0, none⟩ 1 1 (ec [x]) rfl ?c1 ?c2 ?c3 ?c4 ?c5 ?c6 ?_))
          case c1 => rfl
          case c2 => first | exact HCN.out | exact fun j u h => h
          case c3 => exact ec_one _
          case c4 => simp [maxLen]; omega
          case c5 => omega
          case c6 => first | exact HB3.out.size | (have h9 := HB3.out.size; simp at h9; omega)
          intro v' w5 hown hgrow _
          have HB5 := Lib.hid (HB3.out.grown hgrow HB3.out.size (by rintro k hk; exact (HO2.out.lt k hk).1))
          have HO5 := Lib.hid (edits_snoc hown)
          clear hown hgrow
          go_wp2_with fail
          go_roundw
          case rel => exact ⟨k + 1, by omega, by go_num, by rw [HS.out, List.length_append]; exact HO5.out, HB5.out⟩
          case measure => simp [intOf]; omega
      · obtain rfl : k = XS.length := by omega
        have hlt1 : decide ((XS.length : Int) < (XS.length : Int)) = false := decide_eq_false (by omega)
        rw [List.take_length] at HO
        obtain ⟨va, vc, rfl⟩ := own_slice HO.out
        have HO := Lib.hid (own_mono HO.out HB0.out.size)
        have HBE := Lib.hid (HB0.out.trans (HB.out.mono HB0.out.size))
        go_wp2_with fail
        go_ret2
        exact ⟨_, _, rfl, HO.out, HBE.out⟩
  · rw [show alR ps ts = [] by unfold alR; rw [if_neg hz]]
    unfold alC at hz ⊢
    generalize feL [vp ps, vts ts] = q at *
    have hq1 : (q != 0) = true := by simpa using hz
    clear hz hp hts
    go_enter Tryz.func18, Tryz.ntmps18
    go_wp2_with fail
    refine (H1.out _ HP.out HTS.out).mono ?_
    rintro e w1 ⟨rfl, hB⟩
    have HB1 := Lib.hid hB
    clear hB
    go_wp2_with fail
    go_ret2
    exact givesEditsE_nil HB1.out

set_option maxRecDepth 100000 in
set_option maxHeartbeats 4000000 in
theorem rScore_any (a h : Option Addr) (ca ch : Nat) (ps : List L) (ts : List T) (w : World) (hp : LinesAt w a ps) (hts : TestsAt w h ts) :
    Calls Tryz.prog 20 #[.slice a ps.length ca, .slice h ts.length ch] w fun e w' => e = .returned (.tuple #[.agg #[.int .i64 (scA ps ts), .int .i64 (scB ps ts)], .int .i64 (scC ps ts)]) ∧ Below w.heap.size w w' := by
  have H1 := Lib.hid (fun w h1 h2 => rAlive_any a h ca ch ps ts w h1 h2)
  have HP := Lib.hid hp
  have HT := Lib.hid hts
  have HR0 := Lib.hid (hp_new (w := w) (o := .cells #[.int .i64 0, .int .i64 0] 40 (0, 0)) rfl)
  have HB0 := Lib.hid ((Below.refl w.heap.size w).alloc (Nat.le_refl _) (.cells #[.int .i64 0, .int .i64 0] 40))
  by_cases hz : alC ps ts = 0
  · obtain ⟨v1, v2⟩ := alC_ok hz
    have H2 := Lib.hid (fun w h => rmutants_any a ca ps w h v1)
    have HA := Lib.hid (show alR ps ts = alL ps ts by unfold alR; rw [if_pos hz])
    rw [hz, HA.out] at H1
    by_cases hl : (edL ps 0).length = 0
    · have e1 : scC ps ts = 8 := by unfold scC; rw [if_pos hz, if_pos hl]
      rw [show scA ps ts = 0 by unfold scA; rw [e1]; rfl, show scB ps ts = 0 by unfold scB; rw [e1]; rfl, e1]
      rw [List.length_eq_zero_iff] at hl
      rw [hl] at H2
      generalize alL ps ts = AL at *
      clear hz hl v1 v2 hp hts e1
      go_enter Tryz.func20, Tryz.ntmps20
      go_wp2_with fail
      refine (H1.out _ (HP.out.below HB0.out (Nat.le_refl _)) (HT.out.below HB0.out (Nat.le_refl _))).mono ?_
      rintro e w1 ⟨a5, k5, rfl, hq5, hB⟩
      have HR1 := Lib.hid (hp_below HR0.out hB (hp_lt HR0.out))
      have HB1 := Lib.hid (HB0.out.trans (hB.mono HB0.out.size))
      clear hB hq5
      go_wp2_with fail
      refine (H2.out _ (HP.out.below HB1.out (Nat.le_refl _))).mono ?_
      rintro e w2 ⟨aq, cq, rfl, hq, hB⟩
      have HR2 := Lib.hid (hp_below HR1.out hB (hp_lt HR1.out))
      have HB2 := Lib.hid (HB1.out.trans (hB.mono HB1.out.size))
      clear hB hq
      have z0 := hp_cell HR2.out (j := 0) (by rfl)
      have z1 := hp_cell HR2.out (j := 1) (by rfl)
      have f0 := hp_free HR2.out 0
      have f1 := hp_free HR2.out 1
      go_wp2_with fail
      refine bodyPost_ret (v := .tuple #[.agg #[.int .i64 0, .int .i64 0], .int .i64 8]) ?_ rfl ⟨rfl, ((HB2.out.setCell (p := ⟨w.heap.size, _, none⟩) (Nat.le_refl _) _).setCell (p := ⟨w.heap.size, _, none⟩) (Nat.le_refl _) _)⟩
      exact results_cell_tmp5 (p := 4) (ty := 40) rfl _ _ w.heap.size 40 _ (0, 0) (by rfl) (hp_put (hp_put HR2.out 0 _) 1 _) Tryz.underlying40 size_rat rfl
    · have e1 : scC ps ts = 0 := by unfold scC; rw [if_pos hz, if_neg hl]
      have hle := edL_len20 v1
      have k1 := kiN_al ps ts
      have H4 := Lib.hid (fun w => ratio5_any (kiN ps ts) (edL ps 0).length w (by omega) (by omega) (by omega))
      rw [show scA ps ts = fracA (kiN ps ts) (edL ps 0).length by unfold scA; rw [if_pos e1], show scB ps ts = fracB (kiN ps ts) (edL ps 0).length by unfold scB; rw [if_pos e1], e1]
      generalize fracA (kiN ps ts) (edL ps 0).length = qa at *
      generalize fracB (kiN ps ts) (edL ps 0).length = qb at *
      generalize kiN ps ts = kn at *
      generalize edL ps 0 = XS at *
      generalize alL ps ts = AL at *
      have hl1 : ((XS.length : Int) == 0) = false := beq_eq_false_iff_ne.2 (by omega)
      have hl2 : decide ((XS.length : Int) = 0) = false := decide_eq_false (by omega)
      have hsb : IntKind.i64.wrap ((XS.length : Int) - (AL.length : Int)) = (kn : Int) := by rw [IntWalk.i64_in _ (by omega)]; omega
      clear hz v1 v2 hp hts e1 k1
      go_enter Tryz.func20, Tryz.ntmps20
      go_wp2_with fail
      refine (H1.out _ (HP.out.below HB0.out (Nat.le_refl _)) (HT.out.below HB0.out (Nat.le_refl _))).mono ?_
      rintro e w1 ⟨a5, k5, rfl, hq5, hB⟩
      have HR1 := Lib.hid (hp_below HR0.out hB (hp_lt HR0.out))
      have HB1 := Lib.hid (HB0.out.trans (hB.mono HB0.out.size))
      clear hB hq5
      go_wp2_with fail
      refine (H2.out _ (HP.out.below HB1.out (Nat.le_refl _))).mono ?_
      rintro e w2 ⟨aq, cq, rfl, hq, hB⟩
      have HR2 := Lib.hid (hp_below HR1.out hB (hp_lt HR1.out))
      have HB2 := Lib.hid (HB1.out.trans (hB.mono HB1.out.size))
      clear hB hq
      go_wp2_with fail
      refine (H4.out _).mono ?_
      rintro e w4 ⟨rfl, hB⟩
      have HR4 := Lib.hid (hp_below HR2.out hB (hp_lt HR2.out))
      have HB4 := Lib.hid (HB2.out.trans (hB.mono HB2.out.size))
      clear hB
      have z0 := hp_cell HR4.out (j := 0) (by rfl)
      have z1 := hp_cell HR4.out (j := 1) (by rfl)
      have f0 := hp_free HR4.out 0
      have f1 := hp_free HR4.out 1
      go_wp2_with fail
      refine bodyPost_ret (v := .tuple #[.agg #[.int .i64 qa, .int .i64 qb], .int .i64 0]) ?_ rfl ⟨rfl, ((HB4.out.setCell (p := ⟨w.heap.size, _, none⟩) (Nat.le_refl _) _).setCell (p := ⟨w.heap.size, _, none⟩) (Nat.le_refl _) _)⟩
      exact results_cell_tmp5 (p := 4) (ty := 40) rfl _ _ w.heap.size 40 _ (0, 0) (by rfl) (hp_put (hp_put HR4.out 0 _) 1 _) Tryz.underlying40 size_rat rfl
  · have e1 : scC ps ts = alC ps ts := by unfold scC; rw [if_neg hz]
    rw [show scA ps ts = 0 by unfold scA; rw [if_neg (by rw [e1]; exact hz)], show scB ps ts = 0 by unfold scB; rw [if_neg (by rw [e1]; exact hz)], e1]
    have HA := Lib.hid (show alR ps ts = [] by unfold alR; rw [if_neg hz])
    rw [HA.out] at H1
    generalize alC ps ts = q at *
    have hq1 : (q != 0) = true := by simpa using hz
    clear hz hp hts e1 HA
    go_enter Tryz.func20, Tryz.ntmps20
    go_wp2_with fail
    refine (H1.out _ (HP.out.below HB0.out (Nat.le_refl _)) (HT.out.below HB0.out (Nat.le_refl _))).mono ?_
    rintro e w1 ⟨a5, k5, rfl, hq5, hB⟩
    have HR1 := Lib.hid (hp_below HR0.out hB (hp_lt HR0.out))
    have HB1 := Lib.hid (HB0.out.trans (hB.mono HB0.out.size))
    clear hB hq5
    have z0 := hp_cell HR1.out (j := 0) (by rfl)
    have z1 := hp_cell HR1.out (j := 1) (by rfl)
    have f0 := hp_free HR1.out 0
    have f1 := hp_free HR1.out 1
    go_wp2_with fail
    refine bodyPost_ret (v := .tuple #[.agg #[.int .i64 0, .int .i64 0], .int .i64 q]) ?_ rfl ⟨rfl, ((HB1.out.setCell (p := ⟨w.heap.size, _, none⟩) (Nat.le_refl _) _).setCell (p := ⟨w.heap.size, _, none⟩) (Nat.le_refl _) _)⟩
    exact results_cell_tmp5 (p := 4) (ty := 40) rfl _ _ w.heap.size 40 _ (0, 0) (by rfl) (hp_put (hp_put HR1.out 0 _) 1 _) Tryz.underlying40 size_rat rfl

end Go.Proofs.YtplmpennafcbfaaGreat

/- SeekScores: the walk. -/
set_option linter.unusedVariables false
set_option linter.unusedSimpArgs false
namespace Go.Proofs.YtplmpennafcbfaaGreat
open Go.RowKit Go.Shelf Tinker

theorem tests_take {w : World} {g : Option Addr} {ts : List T} (h : TestsAt w g ts) (n : Nat) : TestsAt w g (ts.take n) := by
  rcases h with rfl | ⟨b, off, e, hlt, hc⟩
  · exact .inl (by simp)
  · refine .inr ⟨b, off, e, hlt, fun j t hj => hc j t ?_⟩
    rw [List.getElem?_take] at hj
    split at hj
    · exact hj
    · cases hj
theorem tests_some {w : World} {g : Option Addr} {ts : List T} (h : TestsAt w g ts) (hn : ts.length ≠ 0) : ∃ b off, g = some ⟨b, off, none⟩ := by
  rcases h with rfl | ⟨b, off, e, _⟩
  · exact absurd rfl hn
  · exact ⟨b, off, e⟩

set_option maxRecDepth 100000 in
set_option maxHeartbeats 16000000 in
theorem seekScores_walk (a : Option Addr) (ca : Nat) (ps : List L) (h : Option Addr) (ch : Nat) (ts : List T) (w : World) (hp : LinesAt w a ps) (hts : TestsAt w h ts) (ht : ts.length ≤ maxLen) (hcp : ts.length ≤ ch) :
    Calls Tryz.prog 5 #[.slice a ps.length ca, .slice h ts.length ch] w fun e w' => e = .returned (.bool true) ∧ Below w.heap.size w w' := by
  have HK := Lib.hid (fun w => same5_any w)
  have HL := Lib.hid (fun w => long5_any a none ps.length 0 ca 0 w)
  have HM := Lib.hid (fun w h1 => many4_any h ch ts w h1 ht)
  have HP := Lib.hid hp
  have HT := Lib.hid hts
  clear hp hts
  by_cases g1 : 100 < ps.length
  · rw [show (decide (100 < ps.length) || decide (100 < 0)) = true by simpa using g1] at HL
    clear g1 HP HT HM
    go_enter Tryz.func5, Tryz.ntmps5
    go_wp2_with fail
    refine (HL.out _).mono ?_
    rintro e we0 ⟨rfl, rfl⟩
    go_wp2_with fail
    refine (HK.out _).mono ?_
    rintro e w9 ⟨rfl, hB⟩
    have HB := Lib.hid (hB)
    clear hB
    go_wp2_with fail
    go_ret
    exact ⟨rfl, HB.out⟩
  rw [show (decide (100 < ps.length) || decide (100 < 0)) = false by simp; omega] at HL
  cases g2 : manyC ts
  case true =>
    rw [g2] at HM
    clear g1 g2
    go_enter Tryz.func5, Tryz.ntmps5
    go_wp2_with fail
    refine (HL.out _).mono ?_
    rintro e we0 ⟨rfl, rfl⟩
    go_wp2_with fail
    refine (HM.out _ HT.out).mono ?_
    rintro e w1 ⟨rfl, hB⟩
    have HP := Lib.hid (HP.out.below hB (Nat.le_refl _))
    have HT := Lib.hid (HT.out.below hB (Nat.le_refl _))
    have HB := Lib.hid hB
    clear hB
    go_wp2_with fail
    refine (HK.out _).mono ?_
    rintro e w9 ⟨rfl, hB⟩
    have HB := Lib.hid (HB.out.trans (hB.mono HB.out.size))
    clear hB
    go_wp2_with fail
    go_ret
    exact ⟨rfl, HB.out⟩
  case false =>
    obtain ⟨t50, tml⟩ := manyC_no g2
    rw [g2] at HM
    have hml : ∀ t ∈ ts, t.inn.length ≤ 1000 := fun t h => Nat.le_trans (tml t h) (by decide)
    have C1 := Lib.hid (fun w h1 h2 => sAlive_any a h ca ch ps ts w h1 h2 (by omega) (by omega) hml)
    have C2 := Lib.hid (fun w h1 h2 => rAlive_any a h ca ch ps ts w h1 h2)
    have C3 := Lib.hid (fun w h1 h2 => sScore_any a h ca ch ps ts w h1 h2 (by omega) (by omega) hml)
    have C4 := Lib.hid (fun w h1 h2 => rScore_any a h ca ch ps ts w h1 h2)
    have HS := Lib.hid (fun a b c d w h1 h2 => sameE5_self (alR ps ts).length a b c d (alR ps ts) w rfl h1 h2 (by have := alR_len ps ts; omega))
    have e1 : (alC ps ts != alC ps ts) = false := by simp
    have e2 : (scC ps ts != scC ps ts) = false := by simp
    by_cases hz : scC ps ts = 0
    · by_cases hn : ts.length = 0
      · rw [hz] at C3 C4
        generalize alR ps ts = AL at *
        generalize alC ps ts = q1 at *
        generalize scA ps ts = A at *
        generalize scB ps ts = B at *
        have hn1 : ((ts.length : Int) == 0) = true := by simp [hn]
        have hn2 : decide ((ts.length : Int) = 0) = true := by simp [hn]
        have HN := Lib.hid hn
        clear hz hn e2 g1 g2 tml hml t50
        go_enter Tryz.func5, Tryz.ntmps5
        go_wp2_with fail
        refine (HL.out _).mono ?_
        rintro e we0 ⟨rfl, rfl⟩
        go_wp2_with fail
        refine (HM.out _ HT.out).mono ?_
        rintro e w1 ⟨rfl, hB⟩
        have HP := Lib.hid (HP.out.below hB (Nat.le_refl _))
        have HT := Lib.hid (HT.out.below hB (Nat.le_refl _))
        have HB := Lib.hid hB
        clear hB
        go_wp2_with fail
        refine (C1.out _ HP.out HT.out).mono ?_
        rintro e w2 ⟨a1, k1, rfl, hq, hB⟩
        have HE1 := Lib.hid hq
        clear hq
        have HP := Lib.hid (HP.out.below hB (Nat.le_refl _))
        have HT := Lib.hid (HT.out.below hB (Nat.le_refl _))
        have HB := Lib.hid (HB.out.trans (hB.mono HB.out.size))
        clear hB
        go_wp2_with fail
        refine (C2.out _ HP.out HT.out).mono ?_
        rintro e w3 ⟨a2, k2, rfl, hq, hB⟩
        have HE1 := Lib.hid (own_below HE1.out hB (Nat.le_refl _))
        have HE2 := Lib.hid (edits_of_own hq).1
        clear hq
        have HP := Lib.hid (HP.out.below hB (Nat.le_refl _))
        have HT := Lib.hid (HT.out.below hB (Nat.le_refl _))
        have HB := Lib.hid (HB.out.trans (hB.mono HB.out.size))
        clear hB
        go_wp2_with fail
        refine (C3.out _ HP.out HT.out).mono ?_
        rintro e w4 ⟨rfl, hB⟩
        have HE1 := Lib.hid (own_below HE1.out hB (Nat.le_refl _))
        have HE2 := Lib.hid (HE2.out.below hB (Nat.le_refl _))
        have HP := Lib.hid (HP.out.below hB (Nat.le_refl _))
        have HT := Lib.hid (HT.out.below hB (Nat.le_refl _))
        have HB := Lib.hid (HB.out.trans (hB.mono HB.out.size))
        clear hB
        have hal := (Below.refl w4.heap.size w4).alloc (Nat.le_refl _) (.cells #[.int .i64 A, .int .i64 B] 40)
        have HE1 := Lib.hid (own_below HE1.out hal (Nat.le_refl _))
        have HE2 := Lib.hid (HE2.out.below hal (Nat.le_refl _))
        have H9 := Lib.hid (hp_new (w := w4) (o := .cells #[.int .i64 A, .int .i64 B] 40 (0, 0)) rfl)
        have HP := Lib.hid (HP.out.below hal (Nat.le_refl _))
        have HT := Lib.hid (HT.out.below hal (Nat.le_refl _))
        have HB := Lib.hid (HB.out.trans (hal.mono HB.out.size))
        clear hal
        go_wp2_with fail
        refine (C4.out _ HP.out HT.out).mono ?_
        rintro e w5 ⟨rfl, hB⟩
        have HE1 := Lib.hid (own_below HE1.out hB (Nat.le_refl _))
        have HE2 := Lib.hid (HE2.out.below hB (Nat.le_refl _))
        have H9 := Lib.hid (hp_below H9.out hB (hp_lt H9.out))
        have HP := Lib.hid (HP.out.below hB (Nat.le_refl _))
        have HT := Lib.hid (HT.out.below hB (Nat.le_refl _))
        have HB := Lib.hid (HB.out.trans (hB.mono HB.out.size))
        clear hB
        have hal := (Below.refl w5.heap.size w5).alloc (Nat.le_refl _) (.cells #[.int .i64 A, .int .i64 B] 40)
        have HE1 := Lib.hid (own_below HE1.out hal (Nat.le_refl _))
        have HE2 := Lib.hid (HE2.out.below hal (Nat.le_refl _))
        have H9 := Lib.hid (hp_below H9.out hal (hp_lt H9.out))
        have H11 := Lib.hid (hp_new (w := w5) (o := .cells #[.int .i64 A, .int .i64 B] 40 (0, 0)) rfl)
        have HP := Lib.hid (HP.out.below hal (Nat.le_refl _))
        have HT := Lib.hid (HT.out.below hal (Nat.le_refl _))
        have HB := Lib.hid (HB.out.trans (hal.mono HB.out.size))
        clear hal
        go_wp2_with fail
        refine (HS.out _ _ _ _ _ (edits_of_own HE1.out).1 HE2.out).mono ?_
        rintro e w6 ⟨rfl, hB⟩
        have H9 := Lib.hid (hp_below H9.out hB (hp_lt H9.out))
        have H11 := Lib.hid (hp_below H11.out hB (hp_lt H11.out))
        have HP := Lib.hid (HP.out.below hB (Nat.le_refl _))
        have HT := Lib.hid (HT.out.below hB (Nat.le_refl _))
        have HB := Lib.hid (HB.out.trans (hB.mono HB.out.size))
        clear hB
        have y0 := hp_cell H9.out (j := 0) (by rfl)
        have y1 := hp_cell H9.out (j := 1) (by rfl)
        have z0 := hp_cell H11.out (j := 0) (by rfl)
        have z1 := hp_cell H11.out (j := 1) (by rfl)
        go_wp2_with fail
        refine (HK.out _).mono ?_
        rintro e w9 ⟨rfl, hB⟩
        have HB := Lib.hid (HB.out.trans (hB.mono HB.out.size))
        clear hB
        go_wp2_with fail
        go_ret
        exact ⟨rfl, HB.out⟩
      · obtain ⟨⟨f1, f2, f3, f4⟩, ⟨f5, f6, f7, f8⟩, f9⟩ := sc_facts (n := ts.length - 1) hz
        have hzt := scC_take (n := ts.length - 1) hz
        have htl : (ts.take (ts.length - 1)).length = ts.length - 1 := by rw [List.length_take]; omega
        have C5 := Lib.hid (fun w h1 h2 => sScore_any a h ca (ts.length - 1) ps (ts.take (ts.length - 1)) w h1 h2 (by omega) (by omega) (fun t ht => hml t (List.mem_of_mem_take ht)))
        rw [hzt, htl] at C5
        rw [hz] at C3 C4
        generalize alR ps ts = AL at *
        generalize alC ps ts = q1 at *
        generalize scA ps ts = A at *
        generalize scB ps ts = B at *
        generalize scA ps (ts.take (ts.length - 1)) = A2 at *
        generalize scB ps (ts.take (ts.length - 1)) = B2 at *
        obtain ⟨b0, off0, rfl⟩ := tests_some HT.out hn
        have hn1 : ((ts.length : Int) == 0) = false := beq_eq_false_iff_ne.2 (by omega)
        have hn2 : decide ((ts.length : Int) = 0) = false := decide_eq_false (by omega)
        have hw1 : IntKind.i64.wrap ((ts.length : Int) - 1) = ((ts.length - 1 : Nat) : Int) := by rw [IntWalk.i64_in _ (by omega)]; omega
        have hm1 : IntKind.i64.wrap (A2 * B) = A2 * B := IntWalk.i64_in _ (by
          have h1 : 0 ≤ A2 * B := Int.mul_nonneg (by omega) (by omega)
          have h2 : A2 * B ≤ 1000 * 1000 := Int.mul_le_mul (by omega) (by omega) (by omega) (by omega)
          omega)
        have hm2 : IntKind.i64.wrap (A * B2) = A * B2 := IntWalk.i64_in _ (by
          have h1 : 0 ≤ A * B2 := Int.mul_nonneg (by omega) (by omega)
          have h2 : A * B2 ≤ 1000 * 1000 := Int.mul_le_mul (by omega) (by omega) (by omega) (by omega)
          omega)
        have d1 : decide (1 ≤ B2) = true := decide_eq_true f1
        have d2 : decide (B2 ≤ 1000) = true := decide_eq_true f2
        have d3 : decide (1 ≤ B) = true := decide_eq_true f5
        have d4 : decide (B ≤ 1000) = true := decide_eq_true f6
        have d5 : decide (0 ≤ A2) = true := decide_eq_true f3
        have d6 : decide (A2 ≤ 1000) = true := decide_eq_true f4
        have d7 : decide (0 ≤ A) = true := decide_eq_true f7
        have d8 : decide (A ≤ B) = true := decide_eq_true f8
        have d9 : decide (A2 * B ≤ A * B2) = true := decide_eq_true f9
        have hnn : 1 ≤ ts.length := by omega
        obtain ⟨m, hm⟩ : ∃ m, m = ts.length - 1 := ⟨_, rfl⟩
        rw [← hm] at hw1 C5
        have HTm := Lib.hid (show ∀ W, TestsAt W (some ⟨b0, off0, none⟩) ts → TestsAt W (some ⟨b0, off0, none⟩) (ts.take m) from fun W h => tests_take h m)
        rw [← hm] at htl
        have hmc : m ≤ ch := by omega
        clear hz hzt hn e2 g1 g2 tml hml hm htl
        go_enter Tryz.func5, Tryz.ntmps5
        go_wp2_with fail
        refine (HL.out _).mono ?_
        rintro e we0 ⟨rfl, rfl⟩
        go_wp2_with fail
        refine (HM.out _ HT.out).mono ?_
        rintro e w1 ⟨rfl, hB⟩
        have HP := Lib.hid (HP.out.below hB (Nat.le_refl _))
        have HT := Lib.hid (HT.out.below hB (Nat.le_refl _))
        have HB := Lib.hid hB
        clear hB
        go_wp2_with fail
        refine (C1.out _ HP.out HT.out).mono ?_
        rintro e w2 ⟨a1, k1, rfl, hq, hB⟩
        have HE1 := Lib.hid hq
        clear hq
        have HP := Lib.hid (HP.out.below hB (Nat.le_refl _))
        have HT := Lib.hid (HT.out.below hB (Nat.le_refl _))
        have HB := Lib.hid (HB.out.trans (hB.mono HB.out.size))
        clear hB
        go_wp2_with fail
        refine (C2.out _ HP.out HT.out).mono ?_
        rintro e w3 ⟨a2, k2, rfl, hq, hB⟩
        have HE1 := Lib.hid (own_below HE1.out hB (Nat.le_refl _))
        have HE2 := Lib.hid (edits_of_own hq).1
        clear hq
        have HP := Lib.hid (HP.out.below hB (Nat.le_refl _))
        have HT := Lib.hid (HT.out.below hB (Nat.le_refl _))
        have HB := Lib.hid (HB.out.trans (hB.mono HB.out.size))
        clear hB
        go_wp2_with fail
        refine (C3.out _ HP.out HT.out).mono ?_
        rintro e w4 ⟨rfl, hB⟩
        have HE1 := Lib.hid (own_below HE1.out hB (Nat.le_refl _))
        have HE2 := Lib.hid (HE2.out.below hB (Nat.le_refl _))
        have HP := Lib.hid (HP.out.below hB (Nat.le_refl _))
        have HT := Lib.hid (HT.out.below hB (Nat.le_refl _))
        have HB := Lib.hid (HB.out.trans (hB.mono HB.out.size))
        clear hB
        have hal := (Below.refl w4.heap.size w4).alloc (Nat.le_refl _) (.cells #[.int .i64 A, .int .i64 B] 40)
        have HE1 := Lib.hid (own_below HE1.out hal (Nat.le_refl _))
        have HE2 := Lib.hid (HE2.out.below hal (Nat.le_refl _))
        have H9 := Lib.hid (hp_new (w := w4) (o := .cells #[.int .i64 A, .int .i64 B] 40 (0, 0)) rfl)
        have HP := Lib.hid (HP.out.below hal (Nat.le_refl _))
        have HT := Lib.hid (HT.out.below hal (Nat.le_refl _))
        have HB := Lib.hid (HB.out.trans (hal.mono HB.out.size))
        clear hal
        go_wp2_with fail
        refine (C4.out _ HP.out HT.out).mono ?_
        rintro e w5 ⟨rfl, hB⟩
        have HE1 := Lib.hid (own_below HE1.out hB (Nat.le_refl _))
        have HE2 := Lib.hid (HE2.out.below hB (Nat.le_refl _))
        have H9 := Lib.hid (hp_below H9.out hB (hp_lt H9.out))
        have HP := Lib.hid (HP.out.below hB (Nat.le_refl _))
        have HT := Lib.hid (HT.out.below hB (Nat.le_refl _))
        have HB := Lib.hid (HB.out.trans (hB.mono HB.out.size))
        clear hB
        have hal := (Below.refl w5.heap.size w5).alloc (Nat.le_refl _) (.cells #[.int .i64 A, .int .i64 B] 40)
        have HE1 := Lib.hid (own_below HE1.out hal (Nat.le_refl _))
        have HE2 := Lib.hid (HE2.out.below hal (Nat.le_refl _))
        have H9 := Lib.hid (hp_below H9.out hal (hp_lt H9.out))
        have H11 := Lib.hid (hp_new (w := w5) (o := .cells #[.int .i64 A, .int .i64 B] 40 (0, 0)) rfl)
        have HP := Lib.hid (HP.out.below hal (Nat.le_refl _))
        have HT := Lib.hid (HT.out.below hal (Nat.le_refl _))
        have HB := Lib.hid (HB.out.trans (hal.mono HB.out.size))
        clear hal
        go_wp2_with fail
        refine (HS.out _ _ _ _ _ (edits_of_own HE1.out).1 HE2.out).mono ?_
        rintro e w6 ⟨rfl, hB⟩
        have H9 := Lib.hid (hp_below H9.out hB (hp_lt H9.out))
        have H11 := Lib.hid (hp_below H11.out hB (hp_lt H11.out))
        have HP := Lib.hid (HP.out.below hB (Nat.le_refl _))
        have HT := Lib.hid (HT.out.below hB (Nat.le_refl _))
        have HB := Lib.hid (HB.out.trans (hB.mono HB.out.size))
        clear hB
        have y0 := hp_cell H9.out (j := 0) (by rfl)
        have y1 := hp_cell H9.out (j := 1) (by rfl)
        have z0 := hp_cell H11.out (j := 0) (by rfl)
        have z1 := hp_cell H11.out (j := 1) (by rfl)
        go_wp2_with fail
        refine (C5.out _ HP.out (HTm.out _ HT.out)).mono ?_
        rintro e w7 ⟨rfl, hB⟩
        have H9 := Lib.hid (hp_below H9.out hB (hp_lt H9.out))
        have HP := Lib.hid (HP.out.below hB (Nat.le_refl _))
        have HT := Lib.hid (HT.out.below hB (Nat.le_refl _))
        have HB := Lib.hid (HB.out.trans (hB.mono HB.out.size))
        clear hB
        have hal := (Below.refl w7.heap.size w7).alloc (Nat.le_refl _) (.cells #[.int .i64 A2, .int .i64 B2] 40)
        have H9 := Lib.hid (hp_below H9.out hal (hp_lt H9.out))
        have H13 := Lib.hid (hp_new (w := w7) (o := .cells #[.int .i64 A2, .int .i64 B2] 40 (0, 0)) rfl)
        have HP := Lib.hid (HP.out.below hal (Nat.le_refl _))
        have HT := Lib.hid (HT.out.below hal (Nat.le_refl _))
        have HB := Lib.hid (HB.out.trans (hal.mono HB.out.size))
        clear hal
        clear y0 y1 z0 z1
        have y0 := hp_cell H9.out (j := 0) (by rfl)
        have y1 := hp_cell H9.out (j := 1) (by rfl)
        have z0 := hp_cell H13.out (j := 0) (by rfl)
        have z1 := hp_cell H13.out (j := 1) (by rfl)
        go_wp2_with fail
        refine (HK.out _).mono ?_
        rintro e w9 ⟨rfl, hB⟩
        have HB := Lib.hid (HB.out.trans (hB.mono HB.out.size))
        clear hB
        go_wp2_with fail
        go_ret
        exact ⟨rfl, HB.out⟩
    · skip
      generalize alR ps ts = AL at *
      generalize alC ps ts = q1 at *
      generalize scA ps ts = A at *
      generalize scB ps ts = B at *
      generalize scC ps ts = q2 at *
      have e3 : (q2 != 0) = true := by simpa using hz
      clear hz g1 g2 tml hml t50
      go_enter Tryz.func5, Tryz.ntmps5
      go_wp2_with fail
      refine (HL.out _).mono ?_
      rintro e we0 ⟨rfl, rfl⟩
      go_wp2_with fail
      refine (HM.out _ HT.out).mono ?_
      rintro e w1 ⟨rfl, hB⟩
      have HP := Lib.hid (HP.out.below hB (Nat.le_refl _))
      have HT := Lib.hid (HT.out.below hB (Nat.le_refl _))
      have HB := Lib.hid hB
      clear hB
      go_wp2_with fail
      refine (C1.out _ HP.out HT.out).mono ?_
      rintro e w2 ⟨a1, k1, rfl, hq, hB⟩
      have HE1 := Lib.hid hq
      clear hq
      have HP := Lib.hid (HP.out.below hB (Nat.le_refl _))
      have HT := Lib.hid (HT.out.below hB (Nat.le_refl _))
      have HB := Lib.hid (HB.out.trans (hB.mono HB.out.size))
      clear hB
      go_wp2_with fail
      refine (C2.out _ HP.out HT.out).mono ?_
      rintro e w3 ⟨a2, k2, rfl, hq, hB⟩
      have HE1 := Lib.hid (own_below HE1.out hB (Nat.le_refl _))
      have HE2 := Lib.hid (edits_of_own hq).1
      clear hq
      have HP := Lib.hid (HP.out.below hB (Nat.le_refl _))
      have HT := Lib.hid (HT.out.below hB (Nat.le_refl _))
      have HB := Lib.hid (HB.out.trans (hB.mono HB.out.size))
      clear hB
      go_wp2_with fail
      refine (C3.out _ HP.out HT.out).mono ?_
      rintro e w4 ⟨rfl, hB⟩
      have HE1 := Lib.hid (own_below HE1.out hB (Nat.le_refl _))
      have HE2 := Lib.hid (HE2.out.below hB (Nat.le_refl _))
      have HP := Lib.hid (HP.out.below hB (Nat.le_refl _))
      have HT := Lib.hid (HT.out.below hB (Nat.le_refl _))
      have HB := Lib.hid (HB.out.trans (hB.mono HB.out.size))
      clear hB
      have hal := (Below.refl w4.heap.size w4).alloc (Nat.le_refl _) (.cells #[.int .i64 A, .int .i64 B] 40)
      have HE1 := Lib.hid (own_below HE1.out hal (Nat.le_refl _))
      have HE2 := Lib.hid (HE2.out.below hal (Nat.le_refl _))
      have H9 := Lib.hid (hp_new (w := w4) (o := .cells #[.int .i64 A, .int .i64 B] 40 (0, 0)) rfl)
      have HP := Lib.hid (HP.out.below hal (Nat.le_refl _))
      have HT := Lib.hid (HT.out.below hal (Nat.le_refl _))
      have HB := Lib.hid (HB.out.trans (hal.mono HB.out.size))
      clear hal
      go_wp2_with fail
      refine (C4.out _ HP.out HT.out).mono ?_
      rintro e w5 ⟨rfl, hB⟩
      have HE1 := Lib.hid (own_below HE1.out hB (Nat.le_refl _))
      have HE2 := Lib.hid (HE2.out.below hB (Nat.le_refl _))
      have H9 := Lib.hid (hp_below H9.out hB (hp_lt H9.out))
      have HP := Lib.hid (HP.out.below hB (Nat.le_refl _))
      have HT := Lib.hid (HT.out.below hB (Nat.le_refl _))
      have HB := Lib.hid (HB.out.trans (hB.mono HB.out.size))
      clear hB
      have hal := (Below.refl w5.heap.size w5).alloc (Nat.le_refl _) (.cells #[.int .i64 A, .int .i64 B] 40)
      have HE1 := Lib.hid (own_below HE1.out hal (Nat.le_refl _))
      have HE2 := Lib.hid (HE2.out.below hal (Nat.le_refl _))
      have H9 := Lib.hid (hp_below H9.out hal (hp_lt H9.out))
      have H11 := Lib.hid (hp_new (w := w5) (o := .cells #[.int .i64 A, .int .i64 B] 40 (0, 0)) rfl)
      have HP := Lib.hid (HP.out.below hal (Nat.le_refl _))
      have HT := Lib.hid (HT.out.below hal (Nat.le_refl _))
      have HB := Lib.hid (HB.out.trans (hal.mono HB.out.size))
      clear hal
      go_wp2_with fail
      refine (HS.out _ _ _ _ _ (edits_of_own HE1.out).1 HE2.out).mono ?_
      rintro e w6 ⟨rfl, hB⟩
      have H9 := Lib.hid (hp_below H9.out hB (hp_lt H9.out))
      have H11 := Lib.hid (hp_below H11.out hB (hp_lt H11.out))
      have HP := Lib.hid (HP.out.below hB (Nat.le_refl _))
      have HT := Lib.hid (HT.out.below hB (Nat.le_refl _))
      have HB := Lib.hid (HB.out.trans (hB.mono HB.out.size))
      clear hB
      have y0 := hp_cell H9.out (j := 0) (by rfl)
      have y1 := hp_cell H9.out (j := 1) (by rfl)
      have z0 := hp_cell H11.out (j := 0) (by rfl)
      have z1 := hp_cell H11.out (j := 1) (by rfl)
      go_wp2_with fail
      refine (HK.out _).mono ?_
      rintro e w9 ⟨rfl, hB⟩
      have HB := Lib.hid (HB.out.trans (hB.mono HB.out.size))
      clear hB
      go_wp2_with fail
      go_ret
      exact ⟨rfl, HB.out⟩

end Go.Proofs.YtplmpennafcbfaaGreat
