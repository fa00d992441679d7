/- TopCodes: the contracts as the law calls them. -/
import Derived.Test.YtmideaancmpafacTopA
set_option linter.unusedVariables false
set_option linter.unusedSimpArgs false
namespace Go.Proofs.Ytmideaancmpafac
open Go.RowKit Tinker

/-- The boxed job, and what is known so far. -/
structure TopI (x : Nat) (b : Option Addr) (n cb : Nat) (r : Int) (a1 a2 a3 : Option Addr) (S E D : List Int) (w W : World) : Prop where
  bj : W.heap[x]? = some (.cells #[.slice b n cb, .int .i64 r] 39 (0, 0))
  s : IntsAt W a1 S
  e : IntsAt W a2 E
  d : IntsAt W a3 D
  below : Below w.heap.size w W
theorem TopI.low {x : Nat} {b : Option Addr} {n cb : Nat} {r : Int} {a1 a2 a3 : Option Addr} {S E D : List Int} {w W W' : World} (h : TopI x b n cb r a1 a2 a3 S E D w W) (hb : Below W.heap.size W W') : TopI x b n cb r a1 a2 a3 S E D w W' :=
  ⟨hp_below h.bj hb (hp_lt h.bj), h.s.below hb (Nat.le_refl _), h.e.below hb (Nat.le_refl _), h.d.below hb (Nat.le_refl _), h.below.trans (hb.mono h.below.size)⟩
theorem TopI.drew {x : Nat} {b : Option Addr} {n cb : Nat} {r : Int} {a1 a2 a3 : Option Addr} {S E D : List Int} {w W : World} (h : TopI x b n cb r a1 a2 a3 S E D w W) : TopI x b n cb r a1 a2 a3 S E D w W.drew := ⟨hp_drew h.bj, h.s, h.e, h.d, h.below.drew⟩
theorem TopI.c0 {x : Nat} {b : Option Addr} {n cb : Nat} {r : Int} {a1 a2 a3 : Option Addr} {S E D : List Int} {w W : World} (h : TopI x b n cb r a1 a2 a3 S E D w W) : W.cell? ⟨x, 0, none⟩ = some (.slice b n cb) := hp_cell h.bj (by rfl)
theorem TopI.c1 {x : Nat} {b : Option Addr} {n cb : Nat} {r : Int} {a1 a2 a3 : Option Addr} {S E D : List Int} {w W : World} (h : TopI x b n cb r a1 a2 a3 S E D w W) : W.cell? ⟨x, 1, none⟩ = some (.int .i64 r) := hp_cell h.bj (by rfl)

/-- A new list of numbers of n, with a code. -/
def IntsN (n : Nat) (zs : List Int) (c : Int) (w : World) (e : Ending) (w' : World) : Prop := ∃ a k, e = .returned (.tuple #[.slice a n k, .int .i64 c]) ∧ IntsAt w' a zs ∧ Below w.heap.size w w'
theorem intsN_of {zs : List Int} {c : Int} {n : Nat} {w : World} {e : Ending} {w' : World} (h : GivesIntsE zs c w e w') (hn : zs.length = n) : IntsN n zs c w e w' := by
  obtain ⟨a, k, he, hi, hb⟩ := h.weak
  subst hn
  exact ⟨a, k, he, hi, hb⟩
/-- A new list of lines of n, with a code and room for n. -/
def LinesN (n : Nat) (ps : List L) (c : Int) (w : World) (e : Ending) (w' : World) : Prop := ∃ a k, e = .returned (.tuple #[.slice a n k, .int .i64 c]) ∧ LinesAt w' a ps ∧ n ≤ k ∧ Below w.heap.size w w'
theorem linesN_of {ps : List L} {c : Int} {n : Nat} {w : World} {e : Ending} {w' : World} (h : GivesLinesE ps c w e w') (hn : ps.length = n) : LinesN n ps c w e w' := by
  obtain ⟨a, k, he, ho, hb⟩ := h
  subst hn
  refine ⟨a, k, he, (lines_of_own ho).1, ?_, hb⟩
  rcases ho.2 with ⟨he, hn⟩ | ⟨g, cap, cur, he, _, _, hc, _⟩
  · injection he with _ h2 h3; omega
  · injection he with _ _ h3; omega

theorem exLines' {w : World} {n : Nat} (h : w.heap.size = n) : LinesAt (w.alloc (.cells exA 43)) (some ⟨n, 0, none⟩) exP := by subst h; exact exLines w
theorem exForce (W : World) (b b1 b2 b3 : Addr) (h1 : LinesAt W (some b) exP) (h2 : IntsAt W (some b1) [0, 0, 0, 0]) (h3 : IntsAt W (some b2) [0]) (h4 : IntsAt W (some b3) [5]) :
    Calls Try.prog 12 #[.slice (some b) 2 2, .slice (some b1) 4 4, .slice (some b2) 1 1, .slice (some b3) 1 1] W (IntsN 4 [10, 0, 0, 0] 0 W) := by
  have h := force_any (some b) (some b1) (some b2) (some b3) 2 4 1 1 exP [0, 0, 0, 0] [0] [5] W h1 h2 h3 h4 (by decide) (by decide) (by decide)
  rw [ex_force.1, ex_force.2] at h
  exact h.mono fun e w' x => intsN_of x rfl
theorem exSame3 (W : World) (a : Option Addr) (c : Nat) (b : Addr) (h1 : IntsAt W a [10, 0, 0, 0]) (h2 : IntsAt W (some b) [10, 0, 0, 0]) :
    Calls Try.prog 13 #[.slice a 4 c, .slice (some b) 4 4] W fun e w' => e = .returned (.bool true) ∧ Below W.heap.size W w' := by
  have h := same_any a (some b) c 4 _ _ W h1 h2 (by decide)
  rw [show sameI [10, 0, 0, 0] [10, 0, 0, 0] = true by decide] at h
  exact h

section
variable {ps : List L} {s : List Int} {r : Int}
theorem topSlice (h : slCode ps s r = 0) (hm : s.length ≤ 100) (a b : Option Addr) (ca cb : Nat) (w : World) (hp : LinesAt w a ps) (hs : IntsAt w b s) :
    Calls Try.prog 14 #[.slice a ps.length ca, .slice b s.length cb, .int .i64 r] w (IntsN (slA ps s r).length (slA ps s r) 0 w) := by
  have c := slice_any a b ca cb ps s r w hp hs (by omega)
  rw [h] at c
  exact c.mono fun e w' x => intsN_of x rfl
theorem topRun (h : slCode ps s r = 0) (hm : s.length ≤ 100) (a b : Option Addr) (ca cb : Nat) (w : World) (hp : LinesAt w a ps) (hs : IntsAt w b s) :
    Calls Try.prog 15 #[.slice a ps.length ca, .slice b s.length cb] w (IntsN 4 (runL ps s) 0 w) := by
  have hz := (slCode_ok h).1
  have c := run_any a b ca cb ps s w hp hs (by omega)
  rw [hz] at c
  exact c.mono fun e w' x => intsN_of x (by unfold runL; rw [if_pos hz]; exact (runE_ok hz).1)
theorem topDone (h : slCode ps s r = 0) (hm : s.length ≤ 100) (a b : Option Addr) (ca cb : Nat) (w : World) (hp : LinesAt w a ps) (hs : IntsAt w b s) :
    Calls Try.prog 16 #[.slice a ps.length ca, .slice b s.length cb] w (IntsN (doneA ps s).length (doneA ps s) 0 w) := by
  have hz := (slCode_ok h).1
  have c := done_any a b ca cb ps s w hp hs (by omega)
  rw [hz] at c
  exact c.mono fun e w' x => intsN_of x rfl
theorem topHas (a : Option Addr) (cap : Nat) (zs : List Int) (n : Int) (v : Bool) (h : hasB zs n = v) (w : World) (hz : IntsAt w a zs) (hm : zs.length ≤ 1000) :
    Calls Try.prog 18 #[.slice a zs.length cap, .int .i64 n] w fun e w' => e = .returned (.bool v) ∧ w = w' := by
  have c := rHas_any a cap zs n w hz hm
  rw [h] at c
  exact c
theorem topWrites {l : L} (h : isLn l = true) (v : Bool) (hv : Tinker.wr l = v) (w : World) :
    Calls Try.prog 17 #[.agg #[.int .i64 l.op, .int .i64 l.to, .int .i64 l.a, .int .i64 l.b]] w fun e w' => e = .returned (.tuple #[.int .i64 (wrN l), .bool v, .int .i64 0]) ∧ Below w.heap.size w w' := by
  have c := writes_A l w
  have e1 : wrB l = v := by unfold wrB; rw [h, hv]; rfl
  have e2 : vl l = 0 := by unfold vl; rw [h]; rfl
  rw [e1, e2] at c
  exact c
theorem topPut {S : List Int} {k : Nat} {l : L} (hv : vp ps = 0) (hm : ps.length ≤ 100) (hl : ps[k]? = some l) (hw : Tinker.wr l = true) (hs : hasB S (k : Int) = false) (a : Option Addr) (ca : Nat) (w : World) (hp : LinesAt w a (lessT ps S k)) :
    Calls Try.prog 19 #[.slice a ps.length ca, .int .i64 k, .agg #[.int .i64 0, .int .i64 0, .int .i64 0, .int .i64 0]] w (LinesN ps.length (lessT ps S (k + 1)) 0 w) := by
  have c := put_any a ca (lessT ps S k) k zL w hp (by rw [lessT_len]; omega)
  have e := lessT_put hv hl hw hs
  rw [e.1, e.2, lessT_len] at c
  exact c.mono fun e w' x => linesN_of x (lessT_len _ _ _)
theorem topRun2 (h : slCode ps s r = 0) (hm : s.length ≤ 100) (a b : Option Addr) (ca cb : Nat) (w : World) (hp : LinesAt w a (lessT ps (slA ps s r) ps.length)) (hs : IntsAt w b s) :
    Calls Try.prog 15 #[.slice a ps.length ca, .slice b s.length cb] w (IntsN 4 (runL (lessT ps (slA ps s r) ps.length) s) 0 w) := by
  have e := top_less h
  have c := topRun e.2.1 hm a b ca cb w hp hs
  rw [lessT_len] at c
  exact c
theorem topSlice2 (h : slCode ps s r = 0) (hm : s.length ≤ 100) (a b : Option Addr) (ca cb : Nat) (w : World) (hp : LinesAt w a (lessT ps (slA ps s r) ps.length)) (hs : IntsAt w b s) :
    Calls Try.prog 14 #[.slice a ps.length ca, .slice b s.length cb, .int .i64 r] w (IntsN (slA ps s r).length (slA ps s r) 0 w) := by
  have e := top_less h
  have c := topSlice e.2.1 hm a b ca cb w hp hs
  rw [lessT_len, e.2.2.1] at c
  exact c
theorem topExNo {n : Int} (h : xcC ps n ≠ 0) (hm : ps.length ≤ 100) (a : Option Addr) (ca : Nat) (hc : ps.length ≤ ca) (w : World) (hp : LinesAt w a ps) :
    Calls Try.prog 20 #[.slice a ps.length ca, .int .i64 n] w fun e w' => ∃ a k m, e = .returned (.tuple #[.slice a m k, .int .i64 (xcC ps n)]) ∧ Below w.heap.size w w' := by
  refine (exchange_any a ca ps n w hp (by omega) hc).mono fun e w' x => ?_
  obtain ⟨a, k, he, _, hb⟩ := x
  exact ⟨a, k, _, he, hb⟩
theorem topEx {n : Int} (h : xcC ps n = 0) (hm : ps.length ≤ 100) (a : Option Addr) (ca : Nat) (hc : ps.length ≤ ca) (w : World) (hp : LinesAt w a ps) :
    Calls Try.prog 20 #[.slice a ps.length ca, .int .i64 n] w (LinesN ps.length (xcP ps n) 0 w) := by
  have c := exchange_any a ca ps n w hp (by omega) hc
  rw [h] at c
  exact c.mono fun e w' x => linesN_of x (by rw [xcP_yes h, swp_length])
theorem topExRun {n : Int} (h : xcC ps n = 0) (hz : vr ps s = 0) (hm : s.length ≤ 100) (a b : Option Addr) (ca cb : Nat) (w : World) (hp : LinesAt w a (xcP ps n)) (hs : IntsAt w b s) :
    Calls Try.prog 15 #[.slice a ps.length ca, .slice b s.length cb] w (IntsN 4 (runL ps s) 0 w) := by
  have c := run_any a b ca cb (xcP ps n) s w hp hs (by omega)
  have e := exch_eq (s := s) h
  have hl : (xcP ps n).length = ps.length := by rw [xcP_yes h, swp_length]
  rw [e.1, e.2, hz, hl] at c
  exact c.mono fun e w' x => intsN_of x (by unfold runL; rw [if_pos hz]; exact (runE_ok hz).1)
theorem topEx2 {n : Int} (h : xcC ps n = 0) (hm : ps.length ≤ 100) (a : Option Addr) (ca : Nat) (hc : ps.length ≤ ca) (w : World) (hp : LinesAt w a (xcP ps n)) :
    Calls Try.prog 20 #[.slice a ps.length ca, .int .i64 n] w (LinesN ps.length ps 0 w) := by
  have hl : (xcP ps n).length = ps.length := by rw [xcP_yes h, swp_length]
  have c := exchange_any a ca (xcP ps n) n w hp (by omega) (by omega)
  have e := exch_twice h
  rw [e.1, e.2, hl] at c
  exact c.mono fun e w' x => linesN_of x rfl
theorem topRenNo {nm : List Int} (h : rnC ps nm ≠ 0) (hm : ps.length ≤ 100) (hm2 : nm.length ≤ 100) (a b : Option Addr) (ca cb : Nat) (w : World) (hp : LinesAt w a ps) (hn : IntsAt w b nm) :
    Calls Try.prog 22 #[.slice a ps.length ca, .slice b nm.length cb] w fun e w' => ∃ a k m, e = .returned (.tuple #[.slice a m k, .int .i64 (rnC ps nm)]) ∧ Below w.heap.size w w' := by
  refine (rename_any a b ca cb ps nm w hp hn (by omega) (by omega)).mono fun e w' x => ?_
  obtain ⟨a, k, he, _, hb⟩ := x
  exact ⟨a, k, _, he, hb⟩
/-- What renames also moves. -/
theorem mo_of {nm : List Int} (h : rnC ps nm = 0) (hz : vr ps s = 0) : moC s nm = 0 := by
  obtain ⟨_, b⟩ := rnC_ok h
  unfold moC fe nmC
  rw [if_pos (vr_ok hz).2, b]; rfl
theorem topRen {nm : List Int} (h : rnC ps nm = 0) (hm : ps.length ≤ 100) (hm2 : nm.length ≤ 100) (a b : Option Addr) (ca cb : Nat) (w : World) (hp : LinesAt w a ps) (hn : IntsAt w b nm) :
    Calls Try.prog 22 #[.slice a ps.length ca, .slice b nm.length cb] w (LinesN (rnP ps nm).length (rnP ps nm) 0 w) := by
  have c := rename_any a b ca cb ps nm w hp hn (by omega) (by omega)
  rw [h] at c
  exact c.mono fun e w' x => linesN_of x rfl
theorem topMove {nm : List Int} (h : rnC ps nm = 0) (hz : vr ps s = 0) (hm : s.length ≤ 100) (hm2 : nm.length ≤ 100) (a b : Option Addr) (ca cb : Nat) (w : World) (hs : IntsAt w a s) (hn : IntsAt w b nm) :
    Calls Try.prog 23 #[.slice a s.length ca, .slice b nm.length cb] w (IntsN (moP s nm).length (moP s nm) 0 w) := by
  have c := move_any a b ca cb s nm w hs hn (by omega) (by omega)
  rw [mo_of h hz] at c
  exact c
theorem topRenRun {nm : List Int} (h : rnC ps nm = 0) (hz : vr ps s = 0) (a b : Option Addr) (ca cb : Nat) (w : World) (hp : LinesAt w a (rnP ps nm)) (hs : IntsAt w b (moP s nm)) :
    Calls Try.prog 15 #[.slice a (rnP ps nm).length ca, .slice b (moP s nm).length cb] w (IntsN 4 (moP (runL ps s) nm) 0 w) := by
  have e := renames_eq h (mo_of (s := s) h hz)
  have hml := moP_len s nm
  have c := run_any a b ca cb (rnP ps nm) (moP s nm) w hp hs (by omega)
  rw [e.2.1, e.2.2.2] at c
  refine c.mono fun e' w' x => intsN_of x ?_
  rw [moP_yes e.2.2.1]
  exact mv_length _ _
theorem topLen {nm : List Int} (h : rnC ps nm = 0) (hz : vr ps s = 0) : (moP (runL ps s) nm).length = 4 := by
  have e := renames_eq h (mo_of (s := s) h hz)
  rw [moP_yes e.2.2.1]
  exact mv_length _ _
theorem topMove2 {nm : List Int} (h : rnC ps nm = 0) (hz : vr ps s = 0) (hm2 : nm.length ≤ 100) (a b : Option Addr) (ca cb : Nat) (w : World) (hs : IntsAt w a (runL ps s)) (hn : IntsAt w b nm) :
    Calls Try.prog 23 #[.slice a 4 ca, .slice b nm.length cb] w (IntsN 4 (moP (runL ps s) nm) 0 w) := by
  have e := renames_eq h (mo_of (s := s) h hz)
  have h4 : (runL ps s).length = 4 := by unfold runL; rw [if_pos hz]; exact (runE_ok hz).1
  have c := move_any a b ca cb (runL ps s) nm w hs hn (by omega) (by omega)
  rw [e.2.2.1, h4] at c
  refine c.mono fun e' w' x => ?_
  obtain ⟨a, k, he, hi, hb⟩ := x
  rw [moP_yes e.2.2.1, mv_length] at he
  exact ⟨a, k, he, hi, hb⟩
end

end Go.Proofs.Ytmideaancmpafac
