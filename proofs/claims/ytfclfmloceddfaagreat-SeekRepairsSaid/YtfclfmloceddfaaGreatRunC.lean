/- Several texts in one. -/
import Derived.Test.YtfclfmloceddfaaGreatRunA
import Derived.Test.YtfclfmloceddfaaGreatPlain
import Derived.Deep.LoopGhost
import Derived.Laws.EntriesVeiled
import Derived.Deep.RegionHeld3
/- follow: the blocks that it keeps; its entry. -/
set_option linter.unusedVariables false
set_option linter.unusedSimpArgs false
namespace Go.Proofs.YtfclfmloceddfaaGreat
open Go.RowKit Tinker

/-- The cells of a course: the state at the end, which lines are done, the states before them. -/
def cv (s : List Int) (d : List Bool) (b : List Int) : Array Value := (s.map (Value.int .i64) ++ (d.map Value.bool ++ b.map (Value.int .i64))).toArray
/-- The cells of what is forced. -/
def fv (d : List Bool) (b : List Int) : Array Value := (d.map Value.bool ++ b.map (Value.int .i64)).toArray

theorem cv_size {s : List Int} {d : List Bool} {b : List Int} (hs : s.length = 4) (hd : d.length = 8) (hb : b.length = 32) : (cv s d b).size = 44 := by simp [cv, hs, hd, hb]
theorem cv_get0 {s : List Int} {d : List Bool} {b : List Int} {n : Nat} (h : n < s.length) : (cv s d b)[n]? = some (.int .i64 (s.getD n 0)) := by
  simp [cv, List.getElem?_append, h, List.getD_eq_getElem?_getD]
theorem cv_get1 {s : List Int} {d : List Bool} {b : List Int} {n : Nat} (hs : s.length = 4) (h : n < d.length) : (cv s d b)[4 + n]? = some (.bool (d.getD n false)) := by
  simp [cv, List.getElem?_append, h, hs, List.getD_eq_getElem?_getD, show ¬ 4 + n < 4 by omega]
theorem cv_get2 {s : List Int} {d : List Bool} {b : List Int} {n : Nat} (hs : s.length = 4) (hd : d.length = 8) (h : n < b.length) : (cv s d b)[12 + n]? = some (.int .i64 (b.getD n 0)) := by
  simp [cv, List.getElem?_append, h, hs, hd, List.getD_eq_getElem?_getD, show ¬ 12 + n < 4 by omega, show ¬ 12 + n - 4 < 8 by omega, show 12 + n - 4 - 8 = n by omega]
theorem cv_set0 {s : List Int} {d : List Bool} {b : List Int} {n : Nat} (h : n < s.length) (x : Int) : (cv s d b).setIfInBounds n (.int .i64 x) = cv (s.set n x) d b := by
  simp only [cv, List.setIfInBounds_toArray, List.set_append, List.length_map, h, if_true, List.map_set]
theorem cv_set1 {s : List Int} {d : List Bool} {b : List Int} {n : Nat} (hs : s.length = 4) (h : n < d.length) (x : Bool) : (cv s d b).setIfInBounds (4 + n) (.bool x) = cv s (d.set n x) b := by
  simp only [cv, List.setIfInBounds_toArray, List.set_append, List.length_map, hs, show ¬ 4 + n < 4 by omega, if_false, show 4 + n - 4 = n by omega, h, if_true, List.map_set]
theorem cv_set2 {s : List Int} {d : List Bool} {b : List Int} {n : Nat} (hs : s.length = 4) (hd : d.length = 8) (x : Int) : (cv s d b).setIfInBounds (12 + n) (.int .i64 x) = cv s d (b.set n x) := by
  simp only [cv, List.setIfInBounds_toArray, List.set_append, List.length_map, hs, hd, show ¬ 12 + n < 4 by omega, if_false, show 12 + n - 4 = 8 + n by omega, show ¬ 8 + n < 8 by omega, show 8 + n - 8 = n by omega, List.map_set]
theorem cv_one (s : List Int) (d : List Bool) (b : List Int) : (cv s d b).all (·.oneCell') = true := by
  rw [Array.all_eq_true_iff_forall_mem]
  intro v hv
  simp only [cv, List.mem_toArray, List.mem_append, List.mem_map] at hv
  rcases hv with ⟨x, _, rfl⟩ | ⟨x, _, rfl⟩ | ⟨x, _, rfl⟩ <;> rfl
theorem fv_get1 {d : List Bool} {b : List Int} {n : Nat} (h : n < d.length) : (fv d b)[n]? = some (.bool (d.getD n false)) := by
  simp [fv, List.getElem?_append, h, List.getD_eq_getElem?_getD]
theorem fv_get2 {d : List Bool} {b : List Int} {n : Nat} (hd : d.length = 8) (h : n < b.length) : (fv d b)[8 + n]? = some (.int .i64 (b.getD n 0)) := by
  simp [fv, List.getElem?_append, h, hd, List.getD_eq_getElem?_getD, show ¬ 8 + n < 8 by omega]

/-- What is forced, by its two arrays. -/
def fOf (d : List Bool) (b : List Int) (i : Nat) : Option Int := if d.getD i false then some (b.getD i 0) else none

theorem list4 {s : List Int} (h : s.length = 4) : ∃ s0 s1 s2 s3, s = [s0, s1, s2, s3] := by
  match s, h with
  | [a, b, c, d], _ => exact ⟨a, b, c, d, rfl⟩

theorem info_cr : (Tryz.prog.info? 156).map (·.size) = some 44 := by kernel_rfl
theorem info_cr' {s : List Int} {d : List Bool} {b : List Int} (hs : s.length = 4) (hd : d.length = 8) (hb : b.length = 32) : (Tryz.prog.info? 156).map (·.size) = some (cv s d b).size := by rw [info_cr, cv_size hs hd hb]
theorem info_op5 : (Tryz.prog.info? 113).map (·.size) = some 5 := by kernel_rfl
theorem info_ln4 : (Tryz.prog.info? 42).map (·.size) = some 4 := by kernel_rfl

/-- What follow answers. -/
def GivesCourse (p : List L) (f : Nat → Option Int) (s : List Int) (w : World) (e : Ending) (w' : World) : Prop :=
  e = .returned (.agg (cv (tr p f 0 s).2 (doneL (tr p f 0 s).1) (befL (tr p f 0 s).1))) ∧ Below w.heap.size w w'

/-- The zero course. -/
def cv0 : Array Value := cv [0, 0, 0, 0] (List.replicate 8 false) (List.replicate 32 0)

/-- What holds at the head of the loop: i the next line, s the state there, acc what is done. -/
structure Fol (p : List L) (f : Nat → Option Int) (s0 : List Int) (fb : Array Value) (F R T C : Nat) (w : World) (i : Nat) (s : List Int) (acc : List (Nat × List Int)) (wr : World) : Prop where
  run : (tr p f 0 s0).1 = acc ++ (tr p f i s).1 ∧ (tr p f 0 s0).2 = (tr p f i s).2
  ok : okS s
  le : i ≤ 16
  bc : wr.heap[C]? = some (.cells (cv s (doneL acc) (befL acc)) 156 (0, 0))
  bf : wr.heap[F]? = some (.cells fb 161 (0, 0))
  bt : wr.heap[T]? = some (.cells opsT 114 (0, 0))
  br : wr.heap[R]? = some (.cells cv0 156 (0, 0))
  lt : w.heap.size ≤ C ∧ w.heap.size ≤ F ∧ w.heap.size ≤ T ∧ w.heap.size ≤ R ∧ C ≠ F ∧ C ≠ T ∧ C ≠ R
  below : Below w.heap.size w wr

end Go.Proofs.YtfclfmloceddfaaGreat

/- follow: what the table of operations says of a line. -/
set_option linter.unusedVariables false
set_option linter.unusedSimpArgs false
namespace Go.Proofs.YtfclfmloceddfaaGreat
open Go.RowKit Tinker

/-- What a number of a line, of kind k, means in a state. -/
def inK (k : Int) (s : List Int) (n : Int) : Int := if k = 1 then rg s n else n

set_option maxHeartbeats 400000 in
theorem in_exact (k n : Int) (s : List Int) (w : World) (h4 : s.length = 4) (hk : k = 0 ∨ k = 1 ∨ k = 2 ∨ k = 3) (hn : k = 1 → 0 ≤ n ∧ n ≤ 3) :
    Calls Tryz.prog 153 #[.int .i64 k, .agg (iv s), .int .i64 n] w fun e w' => e = .returned (.int .i64 (inK k s n)) ∧ w.alloc (.cells (iv s) 152) = w' := by
  by_cases h1 : k = 1
  · subst h1
    obtain ⟨hn1, hn2⟩ := hn rfl
    have hg := iv_get s n (by omega)
    have e : inK 1 s n = rg s n := by simp [inK]
    rw [e]
    clear h4 hn hk e
    go_enter Tryz.func153, Tryz.ntmps153
    go_wp2
    go_ret
    exact ⟨rfl, rfl⟩
  · have e : inK k s n = n := by simp [inK, h1]
    have h2 : (k == 1) = false := by simpa using h1
    rw [e]
    clear h4 hn hk e h1
    go_enter Tryz.func153, Tryz.ntmps153
    go_wp2
    go_ret
    exact ⟨rfl, rfl⟩

/-- What the table of operations says of a valid line in a state. -/
structure RowP (l : L) (s : List Int) (k0 k1 k2 : Int) (f g : Nat) : Prop where
  fcells : ∀ j v, [Value.int .i64 k0, .int .i64 k1, .int .i64 k2, .func (.func f) #[] #[], .func (.func g) #[] #[]][j]? = some v → opsT[l.op.toNat * 5 + j]? = some v
  fop : 0 ≤ l.op ∧ l.op ≤ 7
  fwr : (k0 == 1) = wr l
  fk1 : k1 = 0 ∨ k1 = 1 ∨ k1 = 2 ∨ k1 = 3
  fk2 : k2 = 0 ∨ k2 = 1 ∨ k2 = 2 ∨ k2 = 3
  ffn : f = 100 ∨ f = 102 ∨ f = 103 ∨ f = 104 ∨ f = 105
  fgn : g = 101 ∨ g = 106
  fa : k1 = 1 → 0 ≤ l.a ∧ l.a ≤ 3
  fb : k2 = 1 → 0 ≤ l.b ∧ l.b ≤ 3
  fres : wr l = true → ∃ v, cutv v = cutv (Tinker.valOf l s) ∧ ∀ W, Calls Tryz.prog f #[.int .i64 (inK k1 s l.a), .int .i64 (inK k2 s l.b)] W fun e w' => e = .returned (.int .i64 v) ∧ W = w'
  fskp : ∀ W, Calls Tryz.prog g #[.int .i64 (inK k1 s l.a), .int .i64 (inK k2 s l.b)] W fun e w' => e = .returned (.bool (skips l s)) ∧ W = w'

theorem cells5 {v0 v1 v2 v3 v4 : Value} {n : Nat} (h0 : opsT[n]? = some v0) (h1 : opsT[n + 1]? = some v1) (h2 : opsT[n + 2]? = some v2) (h3 : opsT[n + 3]? = some v3) (h4 : opsT[n + 4]? = some v4) :
    ∀ j v, [v0, v1, v2, v3, v4][j]? = some v → opsT[n + j]? = some v := fun j v hj => by
  match j, hj with
  | 0, hj => simp at hj; subst hj; exact h0
  | 1, hj => simp at hj; subst hj; exact h1
  | 2, hj => simp at hj; subst hj; exact h2
  | 3, hj => simp at hj; subst hj; exact h3
  | 4, hj => simp at hj; subst hj; exact h4
  | j + 5, hj => simp at hj

theorem inK_1 (s : List Int) (n : Int) : inK 1 s n = rg s n := by simp [inK]
theorem inK_2 (s : List Int) (n : Int) : inK 2 s n = n := by simp [inK]
theorem inK_0 (s : List Int) (n : Int) : inK 0 s n = n := by simp [inK]

theorem rowP_of {l : L} (hl : isLn l = true) {s : List Int} (hs : okS s) : ∃ k0 k1 k2 f g, RowP l s k0 k1 k2 f g := by
  have ho := isLn_op hl
  have ha := isLn_a hl
  have hb := isLn_b hl
  obtain ⟨op, td, a, b⟩ := l
  simp only at ho ha hb
  have h : op = 0 ∨ op = 1 ∨ op = 2 ∨ op = 3 ∨ op = 4 ∨ op = 5 ∨ op = 6 ∨ op = 7 := by omega
  rcases h with rfl | rfl | rfl | rfl | rfl | rfl | rfl | rfl
  · refine ⟨0, 0, 0, 100, 101, cells5 rfl rfl rfl rfl rfl, by simp, by simp [wr], by simp, by simp, by simp, by simp, ?_, ?_, ?_, ?_⟩
    · intro h; omega
    · intro h; omega
    · intro h; simp [wr] at h
    · intro W
      have e : skips ⟨0, td, a, b⟩ s = false := by simp [skips]
      rw [e]
      exact never_any _ _ W
  · refine ⟨1, 2, 0, 100, 101, cells5 rfl rfl rfl rfl rfl, by simp, by simp [wr], by simp, by simp, by simp, by simp, ?_, ?_, ?_, ?_⟩
    · intro h; omega
    · intro h; omega
    · intro _
      refine ⟨_, ?_, fun W => by simp only [inK_2, inK_0]; exact first_any _ _ W⟩
      simp [Tinker.valOf]
    · intro W
      have e : skips ⟨1, td, a, b⟩ s = false := by simp [skips]
      rw [e]
      exact never_any _ _ W
  · refine ⟨1, 1, 0, 100, 101, cells5 rfl rfl rfl rfl rfl, by simp, by simp [wr], by simp, by simp, by simp, by simp, ?_, ?_, ?_, ?_⟩
    · intro h; exact ha (by omega)
    · intro h; omega
    · intro _
      refine ⟨_, ?_, fun W => by simp only [inK_1, inK_0]; exact first_any _ _ W⟩
      simp [Tinker.valOf]
    · intro W
      have e : skips ⟨2, td, a, b⟩ s = false := by simp [skips]
      rw [e]
      exact never_any _ _ W
  · refine ⟨1, 1, 1, 102, 101, cells5 rfl rfl rfl rfl rfl, by simp, by simp [wr], by simp, by simp, by simp, by simp, ?_, ?_, ?_, ?_⟩
    · intro h; exact ha (by omega)
    · intro h; exact hb (by omega)
    · intro _
      refine ⟨_, ?_, fun W => by simp only [inK_1]; exact sum_any _ _ W (okS_rg hs _) (okS_rg hs _)⟩
      simp [Tinker.valOf]
    · intro W
      have e : skips ⟨3, td, a, b⟩ s = false := by simp [skips]
      rw [e]
      exact never_any _ _ W
  · refine ⟨1, 1, 1, 103, 101, cells5 rfl rfl rfl rfl rfl, by simp, by simp [wr], by simp, by simp, by simp, by simp, ?_, ?_, ?_, ?_⟩
    · intro h; exact ha (by omega)
    · intro h; exact hb (by omega)
    · intro _
      refine ⟨_, ?_, fun W => by simp only [inK_1]; exact difference_any _ _ W (okS_rg hs _) (okS_rg hs _)⟩
      simp [Tinker.valOf]
    · intro W
      have e : skips ⟨4, td, a, b⟩ s = false := by simp [skips]
      rw [e]
      exact never_any _ _ W
  · refine ⟨1, 1, 1, 104, 101, cells5 rfl rfl rfl rfl rfl, by simp, by simp [wr], by simp, by simp, by simp, by simp, ?_, ?_, ?_, ?_⟩
    · intro h; exact ha (by omega)
    · intro h; exact hb (by omega)
    · intro _
      refine ⟨_, ?_, fun W => by simp only [inK_1]; exact smaller_any _ _ W⟩
      simp [Tinker.valOf]
    · intro W
      have e : skips ⟨5, td, a, b⟩ s = false := by simp [skips]
      rw [e]
      exact never_any _ _ W
  · refine ⟨1, 1, 1, 105, 101, cells5 rfl rfl rfl rfl rfl, by simp, by simp [wr], by simp, by simp, by simp, by simp, ?_, ?_, ?_, ?_⟩
    · intro h; exact ha (by omega)
    · intro h; exact hb (by omega)
    · intro _
      refine ⟨_, ?_, fun W => by simp only [inK_1]; exact greater_any _ _ W⟩
      simp [Tinker.valOf]
    · intro W
      have e : skips ⟨6, td, a, b⟩ s = false := by simp [skips]
      rw [e]
      exact never_any _ _ W
  · refine ⟨3, 1, 1, 100, 106, cells5 rfl rfl rfl rfl rfl, by simp, by simp [wr], by simp, by simp, by simp, by simp, ?_, ?_, ?_, ?_⟩
    · intro h; exact ha (by omega)
    · intro h; exact hb (by omega)
    · intro h; simp [wr] at h
    · intro W
      have e : skips ⟨7, td, a, b⟩ s = decide (rg s a < rg s b) := by simp [skips]
      rw [e]
      simp only [inK_1]
      exact isBelow_any _ _ W

end Go.Proofs.YtfclfmloceddfaaGreat

/- follow: its contract. -/
set_option linter.unusedVariables false
set_option linter.unusedSimpArgs false
namespace Go.Proofs.YtfclfmloceddfaaGreat
open Go.RowKit Tinker

/-- The blocks that stay: the course (its cells cs), what is forced, the table, the result. -/
structure FolQ (fb : Array Value) (F R T C : Nat) (w : World) (cs : Array Value) (wx : World) : Prop where
  bc : wx.heap[C]? = some (.cells cs 156 (0, 0))
  bf : wx.heap[F]? = some (.cells fb 161 (0, 0))
  bt : wx.heap[T]? = some (.cells opsT 114 (0, 0))
  br : wx.heap[R]? = some (.cells cv0 156 (0, 0))
  lt : w.heap.size ≤ C ∧ w.heap.size ≤ F ∧ w.heap.size ≤ T ∧ w.heap.size ≤ R ∧ C ≠ F ∧ C ≠ T ∧ C ≠ R
  below : Below w.heap.size w wx

theorem FolQ.alloc {fb : Array Value} {F R T C : Nat} {w wx : World} {cs : Array Value} (h : FolQ fb F R T C w cs wx) (o : Obj) : FolQ fb F R T C w cs (wx.alloc o) :=
  ⟨hp_alloc h.bc, hp_alloc h.bf, hp_alloc h.bt, hp_alloc h.br, h.lt, h.below.alloc h.below.size o⟩
theorem FolQ.drew {fb : Array Value} {F R T C : Nat} {w wx : World} {cs : Array Value} (h : FolQ fb F R T C w cs wx) : FolQ fb F R T C w cs wx.drew :=
  ⟨h.bc, h.bf, h.bt, h.br, h.lt, h.below.drew⟩
theorem FolQ.put {fb : Array Value} {F R T C : Nat} {w wx : World} {cs : Array Value} (h : FolQ fb F R T C w cs wx) (n : Nat) (v : Value) : FolQ fb F R T C w (cs.setIfInBounds n v) (wx.setCell ⟨C, n, none⟩ v) :=
  ⟨hp_put h.bc n v, hp_set h.bf (fun e => h.lt.2.2.2.2.1 e.symm) v, hp_set h.bt (fun e => h.lt.2.2.2.2.2.1 e.symm) v, hp_set h.br (fun e => h.lt.2.2.2.2.2.2 e.symm) v, h.lt, h.below.setCell (p := ⟨C, n, none⟩) h.lt.1 v⟩

/-- In a round: the blocks that stay, the line, its row of the table. -/
structure FolR (fb : Array Value) (F R T C Lb Ob : Nat) (l : L) (k0 k1 k2 : Int) (f g : Nat) (w : World) (cs : Array Value) (wx : World) : Prop where
  q : FolQ fb F R T C w cs wx
  bl : wx.heap[Lb]? = some (.cells #[.int .i64 l.op, .int .i64 l.to, .int .i64 l.a, .int .i64 l.b] 42 (0, 0))
  bo : wx.heap[Ob]? = some (.cells #[.int .i64 k0, .int .i64 k1, .int .i64 k2, .func (.func f) #[] #[], .func (.func g) #[] #[]] 113 (0, 0))
  ne : C ≠ Lb ∧ C ≠ Ob

theorem FolR.alloc {fb : Array Value} {F R T C Lb Ob : Nat} {l : L} {k0 k1 k2 : Int} {f g : Nat} {w wx : World} {cs : Array Value} (h : FolR fb F R T C Lb Ob l k0 k1 k2 f g w cs wx) (o : Obj) : FolR fb F R T C Lb Ob l k0 k1 k2 f g w cs (wx.alloc o) :=
  ⟨h.q.alloc o, hp_alloc h.bl, hp_alloc h.bo, h.ne⟩
theorem FolR.drew {fb : Array Value} {F R T C Lb Ob : Nat} {l : L} {k0 k1 k2 : Int} {f g : Nat} {w wx : World} {cs : Array Value} (h : FolR fb F R T C Lb Ob l k0 k1 k2 f g w cs wx) : FolR fb F R T C Lb Ob l k0 k1 k2 f g w cs wx.drew :=
  ⟨h.q.drew, h.bl, h.bo, h.ne⟩
theorem FolR.put {fb : Array Value} {F R T C Lb Ob : Nat} {l : L} {k0 k1 k2 : Int} {f g : Nat} {w wx : World} {cs : Array Value} (h : FolR fb F R T C Lb Ob l k0 k1 k2 f g w cs wx) (n : Nat) (v : Value) : FolR fb F R T C Lb Ob l k0 k1 k2 f g w (cs.setIfInBounds n v) (wx.setCell ⟨C, n, none⟩ v) :=
  ⟨h.q.put n v, hp_set h.bl (fun e => h.ne.1 e.symm) v, hp_set h.bo (fun e => h.ne.2 e.symm) v, h.ne⟩

theorem put4_cv {s : List Int} {d : List Bool} {b : List Int} {i : Nat} {t0 t1 t2 t3 : Int} (hs : s.length = 4) (hd : d.length = 8) :
    (((((cv s d b).setIfInBounds (12 + i * 4) (.int .i64 t0)).setIfInBounds (12 + i * 4 + 1) (.int .i64 t1)).setIfInBounds (12 + i * 4 + 1 + 1) (.int .i64 t2)).setIfInBounds (12 + i * 4 + 1 + 1 + 1) (.int .i64 t3)) = cv s d (put4 b i [t0, t1, t2, t3]) := by
  rw [cv_set2 hs hd, show 12 + i * 4 + 1 = 12 + (i * 4 + 1) by omega, cv_set2 hs hd, show 12 + (i * 4 + 1) + 1 = 12 + (i * 4 + 2) by omega, cv_set2 hs hd, show 12 + (i * 4 + 2) + 1 = 12 + (i * 4 + 3) by omega, cv_set2 hs hd]
  simp [put4]

theorem one4 (a b c d : Int) : (#[Value.int .i64 a, .int .i64 b, .int .i64 c, .int .i64 d] : Array Value).all (·.oneCell') = true := by simp [Value.oneCell']
theorem wr_to {l : L} (hl : isLn l = true) (hw : Tinker.wr l = true) : 0 ≤ l.to ∧ l.to ≤ 3 := by
  have := isLn_op hl
  simp only [Tinker.wr, Bool.and_eq_true, bne_iff_ne] at hw
  exact isLn_to hl (by omega) (by omega)
theorem fol_next {ps : List L} {f : Nat → Option Int} {s0 s : List Int} {i : Nat} {acc : List (Nat × List Int)} {l : L} (hl : ps[i]? = some l) (h1 : (tr ps f 0 s0).1 = acc ++ (tr ps f i s).1) (h2 : (tr ps f 0 s0).2 = (tr ps f i s).2) :
    (tr ps f 0 s0).1 = (acc ++ [(i, s)]) ++ (tr ps f (nxt l s i) (stp l s (f i))).1 ∧ (tr ps f 0 s0).2 = (tr ps f (nxt l s i) (stp l s (f i))).2 := by
  rw [h1, h2, tr_lt hl]; simp
theorem nxt_no {l : L} {s : List Int} {i : Nat} (h : skips l s = false) : nxt l s i = i + 1 := by unfold nxt; rw [h]; rfl
theorem nxt_yes {l : L} {s : List Int} {i : Nat} (h : skips l s = true) : nxt l s i = i + 1 + l.to.toNat := by unfold nxt; rw [h]; rfl
theorem skips_op {l : L} {s : List Int} (h : skips l s = true) : l.op = 7 := by
  unfold skips at h; simp only [Bool.and_eq_true, beq_iff_eq] at h; exact h.1
theorem there_of {w : World} {g o n : Nat} {cs : Array Value} {t : TypeId} (h : w.heap[g]? = some (.cells cs t (0, 0))) (hn : o + n ≤ cs.size) : w.there g o n := fun j hj =>
  ⟨by rw [cell_of_row w g (o + j) cs t (0, 0) h, Array.getElem?_eq_getElem (by omega)]; rfl, hp_free h _⟩
theorem range_of {w : World} {g o : Nat} {cs : Array Value} {t : TypeId} (h : w.heap[g]? = some (.cells cs t (0, 0))) {vs : List Value} (hv : ∀ j v, vs[j]? = some v → cs[o + j]? = some v) : w.rangeAt g o vs := fun j v hj => hp_cell h (hv j v hj)

set_option maxRecDepth 100000 in
set_option maxHeartbeats 4000000 in
theorem follow_any (a : Option Addr) (ca : Nat) (ps : List L) (s : List Int) (d : List Bool) (b : List Int) (w : World) (hp : LinesAt w a ps) (h8 : ps.length ≤ 8) (hv : ∀ l ∈ ps, isLn l = true) (hs : okS s) (hd : d.length = 8) (hb : b.length = 8) (hf : okF ps (fOf d b)) :
    Calls Tryz.prog 136 #[.slice a ps.length ca, .agg (iv s), .agg (fv d b)] w (GivesCourse ps (fOf d b) s w) := by
  obtain ⟨s0, s1, s2, s3, rfl⟩ := list4 hs.1
  go_enter Tryz.func136, Tryz.ntmps136
  go_upto_region 1 with fail
  go_cut [4, 5, 6, 7] (fun s4 s5 s6 s7 wx => ∃ A F R T : Nat, s4 = .pointer (some ⟨A, 0, none⟩) ∧ s5 = .pointer (some ⟨F, 0, none⟩) ∧ s6 = .pointer (some ⟨R, 0, none⟩) ∧ s7 = .pointer (some ⟨T, 0, none⟩) ∧ w.heap.size ≤ F ∧ w.heap.size ≤ T ∧ w.heap.size ≤ R ∧
      wx.heap[A]? = some (.cells #[.int .i64 s0, .int .i64 s1, .int .i64 s2, .int .i64 s3] 152 (0, 0)) ∧ wx.heap[F]? = some (.cells (fv d b) 161 (0, 0)) ∧ wx.heap[R]? = some (.cells cv0 156 (0, 0)) ∧ wx.heap[T]? = some (.cells opsT 114 (0, 0)) ∧ Below w.heap.size w wx)
  case first =>
    go_wp2_with fail
    refine (operations_any _).mono ?_
    rintro e w' ⟨rfl, rfl⟩
    go_wp2_with (refine wpList_store_row rfl 114 (.tmp 7) (.tmp 14) rfl _ opsT rfl rfl 114 _ (hp_new (by simp)) opsT_info rfl opsT_one ?_)
    go_meet
    refine ⟨_, _, _, _, rfl, rfl, rfl, rfl, by omega, by omega, by omega, ?_, ?_, ?_, ?_, ?_⟩
    · refine hp_row ?_ (by omega) _
      repeat first | (refine hp_new ?_; simp; done) | refine hp_alloc ?_
    · refine hp_row ?_ (by omega) _
      repeat first | (refine hp_new ?_; simp; done) | refine hp_alloc ?_
    · refine hp_row ?_ (by omega) _
      repeat first | (refine hp_new ?_; simp; done) | refine hp_alloc ?_
    · refine hp_row_same (hp_new (by simp)) _
    · refine below_setRow (((((((Below.refl _ _).alloc (Nat.le_refl _) _).alloc (by simp) _).alloc (by simp; omega) _).alloc (by simp; omega) _).alloc (by simp; omega) _)) (by omega) _
  case rest =>
    obtain ⟨A, F, R, T, rfl, rfl, rfl, rfl, gF, gT, gR, ba, bf, br, bt, hB⟩ := hcut
    have HA := Lib.hid ba
    have HF := Lib.hid bf
    have HR := Lib.hid br
    have HT := Lib.hid bt
    clear ba bf br bt
    have hFl := hp_lt HF.out
    have hRl := hp_lt HR.out
    have hTl := hp_lt HT.out
    go_upto_region 2 with fail
    go_cut [8] (fun s8 wx => ∃ C : Nat, s8 = .pointer (some ⟨C, 0, none⟩) ∧ FolQ (fv d b) F R T C w (cv [s0, s1, s2, s3] (List.replicate 8 false) (List.replicate 32 0)) wx)
    case first =>
      go_wp2_with (first | (refine wpList_load_row rfl 152 (.tmp 4) rfl A rfl 152 #[.int .i64 s0, .int .i64 s1, .int .i64 s2, .int .i64 s3] (0, 0) _ HA.out Tryz.underlying152 rfl info_st ?_) | (refine wpList_store_row rfl 156 (.tmp 8) (.tmp 16) rfl _ (cv [s0, s1, s2, s3] (List.replicate 8 false) (List.replicate 32 0)) rfl rfl 156 _ (hp_new (by simp)) (info_cr' rfl (by simp) (by simp)) rfl (cv_one _ _ _) ?_))
      go_meet
      exact ⟨_, rfl, hp_row_same (hp_new rfl) _, hp_row (hp_alloc HF.out) (by omega) _, hp_row (hp_alloc HT.out) (by omega) _, hp_row (hp_alloc HR.out) (by omega) _, ⟨hB.size, by omega, by omega, by omega, by omega, by omega, by omega⟩, below_setRow (hB.alloc hB.size _) hB.size _⟩
    case rest =>
      obtain ⟨C, rfl, hQ⟩ := hcut
      clear HA HF HR HT hB hFl hRl hTl gF gT gR
      go_wp2_with fail
      go_loopw [9] (fun s9 wr => ∃ (i : Nat) (s : List Int) (acc : List (Nat × List Int)), s9 = .int .i64 i ∧ i ≤ 16 ∧ (tr ps (fOf d b) 0 [s0, s1, s2, s3]).1 = acc ++ (tr ps (fOf d b) i s).1 ∧ (tr ps (fOf d b) 0 [s0, s1, s2, s3]).2 = (tr ps (fOf d b) i s).2 ∧ okS s ∧ FolQ (fv d b) F R T C w (cv s (doneL acc) (befL acc)) wr) (fun s9 _ => ps.length - (intOf s9).toNat)
      case atStart => exact ⟨0, [s0, s1, s2, s3], [], rfl, by omega, rfl, rfl, hs, hQ⟩
      case round =>
        obtain ⟨i, s, acc, rfl, hi16, ht1, ht2, hsok, hR⟩ := hrel
        clear hQ hi16
        have HT1 := Lib.hid ht1
        have HT2 := Lib.hid ht2
        clear ht1 ht2
        by_cases hlt : i < ps.length
        · obtain ⟨t0, t1, t2, t3, rfl⟩ := list4 hsok.1
          go_upto_region 6 with fail
          go_cut [] (fun wx => FolQ (fv d b) F R T C w (cv [t0, t1, t2, t3] (doneL (acc ++ [(i, [t0, t1, t2, t3])])) (befL (acc ++ [(i, [t0, t1, t2, t3])]))) wx)
          case first =>
            have dl := doneL_length acc
            have bl := befL_length acc
            have e1 := hp_cell hR.bc (cv_get0 (n := 0) (by simp))
            have e2 := hp_cell hR.bc (cv_get0 (n := 1) (by simp))
            have e3 := hp_cell hR.bc (cv_get0 (n := 2) (by simp))
            have e4 := hp_cell hR.bc (cv_get0 (n := 3) (by simp))
            have e5 := hp_cell hR.bc (cv_get1 (n := i) rfl (by omega))
            have e6 := hp_free hR.bc (4 + i)
            have HT3 : Hid (((wr.setCell ⟨C, 4 + i, none⟩ (.bool true))).there C (12 + i * 4) 4) := there_of (hp_put hR.bc (4 + i) (.bool true)) (by rw [Array.size_setIfInBounds, cv_size rfl dl bl]; omega)
            have HO := Lib.hid (one4 t0 t1 t2 t3)
            have HD := Lib.hid dl
            simp only [List.getD_cons_zero, List.getD_cons_succ] at e1 e2 e3 e4
            clear hp dl bl
            go_wp2_with (refine wpList_store_mid rfl 152 (.tmp 30) (.tmp 26) rfl C (12 + i * 4) #[.int .i64 t0, .int .i64 t1, .int .i64 t2, .int .i64 t3] rfl rfl HT3.out info_st HO.out ?_)
            go_meet
            have q := ((((hR.put (4 + i) (.bool true)).put (12 + i * 4) (.int .i64 t0)).put (12 + i * 4 + 1) (.int .i64 t1)).put (12 + i * 4 + 1 + 1) (.int .i64 t2)).put (12 + i * 4 + 1 + 1 + 1) (.int .i64 t3)
            rw [cv_set1 rfl (by rw [HD.out]; omega), put4_cv rfl (by simp [HD.out]), ← doneL_snoc acc i [t0, t1, t2, t3], ← befL_snoc] at q
            exact q
          case rest =>
            clear hR
            have hq0 := hcut
            clear hcut
            obtain ⟨pb, off, l, rfl, hlb, hl, h0, h1, h2, h3⟩ := (hp.below hq0.below (Nat.le_refl _)).at_ hlt
            have HL := Lib.hid hl
            obtain ⟨k0, k1, k2, f, g, hrow⟩ := rowP_of (hv l (mem_of_get hl)) hsok
            clear hl
            go_upto_region 7 with fail
            go_cut [10] (fun s10 wx => ∃ Lb : Nat, s10 = .pointer (some ⟨Lb, 0, none⟩) ∧ FolQ (fv d b) F R T C w (cv [t0, t1, t2, t3] (doneL (acc ++ [(i, [t0, t1, t2, t3])])) (befL (acc ++ [(i, [t0, t1, t2, t3])]))) wx ∧ wx.heap[Lb]? = some (.cells #[.int .i64 l.op, .int .i64 l.to, .int .i64 l.a, .int .i64 l.b] 42 (0, 0)) ∧ C ≠ Lb)
            case first =>
              go_wp2_with fail
              go_meet
              exact ⟨_, rfl, hq0.alloc _, hp_new rfl, by have := hp_lt hq0.bc; omega⟩
            case rest =>
              clear hq0 h0 h1 h2 h3 hlb
              obtain ⟨Lb, rfl, hq, hLb, hCL⟩ := hcut
              go_upto_region 8 with fail
              go_cut [11] (fun s11 wx => ∃ Ob : Nat, s11 = .pointer (some ⟨Ob, 0, none⟩) ∧ FolR (fv d b) F R T C Lb Ob l k0 k1 k2 f g w (cv [t0, t1, t2, t3] (doneL (acc ++ [(i, [t0, t1, t2, t3])])) (befL (acc ++ [(i, [t0, t1, t2, t3])]))) wx)
              case first =>
                have e0 := hp_cell hLb (j := 0) (by rfl)
                have HG := Lib.hid (range_of hq.bt hrow.fcells)
                obtain ⟨op0, op7⟩ := hrow.fop
                have lt := Lib.hid (hp_lt hq.bc)
                go_wp2_with (refine wpList_load_mid rfl 113 (.tmp 37) rfl T (l.op.toNat * 5) rfl _ _ HG.out Tryz.underlying113 rfl info_op5 ?_)
                go_meet
                exact ⟨_, rfl, hq.alloc _, hp_alloc hLb, hp_new rfl, hCL, by have := lt.out; omega⟩
              case rest =>
                clear hq hLb hCL
                obtain ⟨Ob, rfl, hr⟩ := hcut
                go_upto_region 9 with fail
                go_cut [12, 13] (fun s12 s13 wx => s12 = .int .i64 (inK k1 [t0, t1, t2, t3] l.a) ∧ s13 = .int .i64 (inK k2 [t0, t1, t2, t3] l.b) ∧ FolR (fv d b) F R T C Lb Ob l k0 k1 k2 f g w (cv [t0, t1, t2, t3] (doneL (acc ++ [(i, [t0, t1, t2, t3])])) (befL (acc ++ [(i, [t0, t1, t2, t3])]))) wx)
                case first =>
                  have e1 := hp_cell hr.q.bc (cv_get0 (n := 0) (by simp))
                  have e2 := hp_cell hr.q.bc (cv_get0 (n := 1) (by simp))
                  have e3 := hp_cell hr.q.bc (cv_get0 (n := 2) (by simp))
                  have e4 := hp_cell hr.q.bc (cv_get0 (n := 3) (by simp))
                  simp only [List.getD_cons_zero, List.getD_cons_succ] at e1 e2 e3 e4
                  have e5 := hp_cell hr.bl (j := 2) (by rfl)
                  have e6 := hp_cell hr.bl (j := 3) (by rfl)
                  have e7 := hp_cell hr.bo (j := 1) (by rfl)
                  have e8 := hp_cell hr.bo (j := 2) (by rfl)
                  have c1 := fun W => in_exact k1 l.a [t0, t1, t2, t3] W rfl hrow.fk1 hrow.fa
                  have c2 := fun W => in_exact k2 l.b [t0, t1, t2, t3] W rfl hrow.fk2 hrow.fb
                  have C1 := Lib.hid c1
                  have C2 := Lib.hid c2
                  have HRow := Lib.hid hrow
                  clear c1 c2 hrow
                  go_wp2_with fail
                  go_region_held3 (fun w' => w'.cell? ⟨C, 0, none⟩ = some (.int .i64 t0) ∧ w'.cell? ⟨C, 1, none⟩ = some (.int .i64 t1) ∧ w'.cell? ⟨C, 2, none⟩ = some (.int .i64 t2) ∧ w'.cell? ⟨C, 3, none⟩ = some (.int .i64 t3) ∧ w'.cell? ⟨Lb, 2, none⟩ = some (.int .i64 l.a) ∧ w'.cell? ⟨Lb, 3, none⟩ = some (.int .i64 l.b) ∧ w'.cell? ⟨Ob, 1, none⟩ = some (.int .i64 k1) ∧ w'.cell? ⟨Ob, 2, none⟩ = some (.int .i64 k2)) (go_keep)
                    (first | (go_at_call_of 153 (Value.int .i64 k1); refine (C1.out _).mono ?_; rintro e w' ⟨rfl, rfl⟩) | (go_at_call_of 153 (Value.int .i64 k2); refine (C2.out _).mono ?_; rintro e w' ⟨rfl, rfl⟩))
                  all_goals go_wp2_with fail
                  all_goals go_meet
                  all_goals refine ⟨rfl, rfl, ?_⟩
                  all_goals (repeat first | exact hr | refine FolR.drew ?_ | refine FolR.alloc ?_ _)
                case rest =>
                  clear hr
                  obtain ⟨rfl, rfl, hr⟩ := hcut
                  have hli : isLn l = true := hv l (mem_of_get HL.out)
                  have f1 := hp_cell hr.q.bf (fv_get1 (n := i) (b := b) (show i < d.length by omega))
                  generalize hdi : d.getD i false = x at f1
                  have HDI := Lib.hid hdi
                  clear hdi
                  go_upto_if 56 with fail
                  go_cut [] (fun wx => FolR (fv d b) F R T C Lb Ob l k0 k1 k2 f g w (cv (stp l [t0, t1, t2, t3] (fOf d b i)) (doneL (acc ++ [(i, [t0, t1, t2, t3])])) (befL (acc ++ [(i, [t0, t1, t2, t3])]))) wx)
                  case first =>
                    cases x
                    · have ho : fOf d b i = none := by unfold fOf; rw [HDI.out]; rfl
                      have e7 := hp_cell hr.bo (j := 0) (by rfl)
                      have e8 := hrow.fwr
                      cases hw : Tinker.wr l
                      · have HS := Lib.hid (show stp l [t0, t1, t2, t3] (fOf d b i) = [t0, t1, t2, t3] by unfold stp; rw [hw]; rfl)
                        rw [hw] at e8
                        have HRow := Lib.hid hrow
                        clear hrow ho hw
                        go_wp2_with fail
                        go_meet
                        rw [HS.out]
                        exact hr
                      · obtain ⟨v, hv1, hv2⟩ := hrow.fres hw
                        have htd := wr_to hli hw
                        obtain ⟨td0, td1⟩ := htd
                        have HS := Lib.hid (show stp l [t0, t1, t2, t3] (fOf d b i) = [t0, t1, t2, t3].set l.to.toNat (cutv v) by unfold stp; rw [hw, ho, hv1]; rfl)
                        rw [hw] at e8
                        have HV := Lib.hid hv2
                        have hfn := hrow.ffn
                        have HRow := Lib.hid hrow
                        have e9 := hp_cell hr.bo (j := 3) (by rfl)
                        have e10 := hp_cell hr.bl (j := 1) (by rfl)
                        have e11 := hp_cell hr.q.bc (cv_get0 (n := l.to.toNat) (by simp; omega))
                        have e12 := hp_free hr.q.bc l.to.toNat
                        clear hrow ho hw hv1 hv2
                        obtain ⟨n1, n2⟩ := hr.ne
                        have n3 := Ne.symm n1
                        have n4 := Ne.symm n2
                        have td2 : l.to < 4 := by omega
                        rcases hfn with rfl | rfl | rfl | rfl | rfl
                        · go_wp2_with fail
                          go_region_held3 (fun w' => w'.cell? ⟨Lb, 1, none⟩ = some (.int .i64 l.to) ∧ w'.cell? ⟨Ob, 3, none⟩ = some (.func (.func 100) #[] #[])) (go_keep)
                            (first | (go_at_call 154; refine (cut_any _ _).mono ?_; rintro e w' ⟨rfl, rfl⟩) | (go_at_call 100; refine (HV.out _).mono ?_; rintro e w' ⟨rfl, rfl⟩))
                          all_goals go_wp2_with fail
                          all_goals go_meet
                          all_goals rw [HS.out, ← cv_set0 (show l.to.toNat < [t0, t1, t2, t3].length by simp; omega)]
                          all_goals exact (hr.put l.to.toNat (.int .i64 (cutv v))).drew
                        · go_wp2_with fail
                          go_region_held3 (fun w' => w'.cell? ⟨Lb, 1, none⟩ = some (.int .i64 l.to) ∧ w'.cell? ⟨Ob, 3, none⟩ = some (.func (.func 102) #[] #[])) (go_keep)
                            (first | (go_at_call 154; refine (cut_any _ _).mono ?_; rintro e w' ⟨rfl, rfl⟩) | (go_at_call 102; refine (HV.out _).mono ?_; rintro e w' ⟨rfl, rfl⟩))
                          all_goals go_wp2_with fail
                          all_goals go_meet
                          all_goals rw [HS.out, ← cv_set0 (show l.to.toNat < [t0, t1, t2, t3].length by simp; omega)]
                          all_goals exact (hr.put l.to.toNat (.int .i64 (cutv v))).drew
                        · go_wp2_with fail
                          go_region_held3 (fun w' => w'.cell? ⟨Lb, 1, none⟩ = some (.int .i64 l.to) ∧ w'.cell? ⟨Ob, 3, none⟩ = some (.func (.func 103) #[] #[])) (go_keep)
                            (first | (go_at_call 154; refine (cut_any _ _).mono ?_; rintro e w' ⟨rfl, rfl⟩) | (go_at_call 103; refine (HV.out _).mono ?_; rintro e w' ⟨rfl, rfl⟩))
                          all_goals go_wp2_with fail
                          all_goals go_meet
                          all_goals rw [HS.out, ← cv_set0 (show l.to.toNat < [t0, t1, t2, t3].length by simp; omega)]
                          all_goals exact (hr.put l.to.toNat (.int .i64 (cutv v))).drew
                        · go_wp2_with fail
                          go_region_held3 (fun w' => w'.cell? ⟨Lb, 1, none⟩ = some (.int .i64 l.to) ∧ w'.cell? ⟨Ob, 3, none⟩ = some (.func (.func 104) #[] #[])) (go_keep)
                            (first | (go_at_call 154; refine (cut_any _ _).mono ?_; rintro e w' ⟨rfl, rfl⟩) | (go_at_call 104; refine (HV.out _).mono ?_; rintro e w' ⟨rfl, rfl⟩))
                          all_goals go_wp2_with fail
                          all_goals go_meet
                          all_goals rw [HS.out, ← cv_set0 (show l.to.toNat < [t0, t1, t2, t3].length by simp; omega)]
                          all_goals exact (hr.put l.to.toNat (.int .i64 (cutv v))).drew
                        · go_wp2_with fail
                          go_region_held3 (fun w' => w'.cell? ⟨Lb, 1, none⟩ = some (.int .i64 l.to) ∧ w'.cell? ⟨Ob, 3, none⟩ = some (.func (.func 105) #[] #[])) (go_keep)
                            (first | (go_at_call 154; refine (cut_any _ _).mono ?_; rintro e w' ⟨rfl, rfl⟩) | (go_at_call 105; refine (HV.out _).mono ?_; rintro e w' ⟨rfl, rfl⟩))
                          all_goals go_wp2_with fail
                          all_goals go_meet
                          all_goals rw [HS.out, ← cv_set0 (show l.to.toNat < [t0, t1, t2, t3].length by simp; omega)]
                          all_goals exact (hr.put l.to.toNat (.int .i64 (cutv v))).drew
                    · have ho : fOf d b i = some (b.getD i 0) := by unfold fOf; rw [HDI.out]; rfl
                      have hw : Tinker.wr l = true := (hf i _ ho).2 l HL.out
                      obtain ⟨td0, td1⟩ := wr_to hli hw
                      have HS := Lib.hid (show stp l [t0, t1, t2, t3] (fOf d b i) = [t0, t1, t2, t3].set l.to.toNat (b.getD i 0) by unfold stp; rw [hw, ho]; rfl)
                      have HRow := Lib.hid hrow
                      have e9 := hp_cell hr.q.bf (fv_get2 (n := i) hd (show i < b.length by omega))
                      have e10 := hp_cell hr.bl (j := 1) (by rfl)
                      have e11 := hp_cell hr.q.bc (cv_get0 (n := l.to.toNat) (by simp; omega))
                      have e12 := hp_free hr.q.bc l.to.toNat
                      clear hrow ho hw
                      generalize b.getD i 0 = v at e9 HS
                      go_wp2_with fail
                      go_region
                      all_goals go_wp2_with fail
                      all_goals go_meet
                      all_goals rw [HS.out, ← cv_set0 (show l.to.toNat < [t0, t1, t2, t3].length by simp; omega)]
                      all_goals exact (hr.put l.to.toNat (.int .i64 v)).drew
                  case rest =>
                    clear hr
                    have hr := hcut
                    clear hcut
                    have hst : okS (stp l [t0, t1, t2, t3] (fOf d b i)) := okS_stp hsok fun m hm => (hf i m hm).1
                    have HN := Lib.hid (fol_next HL.out HT1.out HT2.out)
                    have e1 := hp_cell hr.bo (j := 4) (by rfl)
                    have e2 := hp_cell hr.bl (j := 1) (by rfl)
                    have HG := Lib.hid hrow.fskp
                    have hgn := hrow.fgn
                    have HRow := Lib.hid hrow
                    have HR := Lib.hid hr.q
                    have hsk : skips l [t0, t1, t2, t3] = true → 1 ≤ l.to ∧ l.to ≤ 8 := fun h => isLn_skip hli (skips_op h)
                    clear hrow hp HT1 HT2
                    generalize hx : skips l [t0, t1, t2, t3] = x at HG hsk
                    have HX := Lib.hid hx
                    clear hx
                    rcases hgn with rfl | rfl
                    · cases x
                      · go_wp2_with (go_at_call 101; refine (HG.out _).mono ?_; rintro e w' ⟨rfl, rfl⟩)
                        go_roundw
                        case rel => exact ⟨nxt l [t0, t1, t2, t3] i, _, _, by rw [nxt_no HX.out]; go_num, by rw [nxt_no HX.out]; omega, HN.out.1, HN.out.2, hst, HR.out⟩
                        case measure => simp [intOf]; omega
                      · obtain ⟨y1, y2⟩ := hsk rfl
                        go_wp2_with (go_at_call 101; refine (HG.out _).mono ?_; rintro e w' ⟨rfl, rfl⟩)
                        go_roundw
                        case rel => exact ⟨nxt l [t0, t1, t2, t3] i, _, _, by rw [nxt_yes HX.out]; exact congrArg _ (by omega), by rw [nxt_yes HX.out]; omega, HN.out.1, HN.out.2, hst, HR.out⟩
                        case measure => simp [intOf]; omega
                    · cases x
                      · go_wp2_with (go_at_call 106; refine (HG.out _).mono ?_; rintro e w' ⟨rfl, rfl⟩)
                        go_roundw
                        case rel => exact ⟨nxt l [t0, t1, t2, t3] i, _, _, by rw [nxt_no HX.out]; go_num, by rw [nxt_no HX.out]; omega, HN.out.1, HN.out.2, hst, HR.out⟩
                        case measure => simp [intOf]; omega
                      · obtain ⟨y1, y2⟩ := hsk rfl
                        go_wp2_with (go_at_call 106; refine (HG.out _).mono ?_; rintro e w' ⟨rfl, rfl⟩)
                        go_roundw
                        case rel => exact ⟨nxt l [t0, t1, t2, t3] i, _, _, by rw [nxt_yes HX.out]; exact congrArg _ (by omega), by rw [nxt_yes HX.out]; omega, HN.out.1, HN.out.2, hst, HR.out⟩
                        case measure => simp [intOf]; omega
        · obtain ⟨hn1, hn2⟩ : (tr ps (fOf d b) i s).1 = [] ∧ (tr ps (fOf d b) i s).2 = s := by rw [tr_ge (by omega)]; exact ⟨rfl, rfl⟩
          have HE := Lib.hid (show cv (tr ps (fOf d b) 0 [s0, s1, s2, s3]).2 (doneL (tr ps (fOf d b) 0 [s0, s1, s2, s3]).1) (befL (tr ps (fOf d b) 0 [s0, s1, s2, s3]).1) = cv s (doneL acc) (befL acc) by rw [HT1.out, HT2.out, hn1, hn2, List.append_nil])
          have HC := Lib.hid hR.bc
          have HRr := Lib.hid hR.br
          have HI := Lib.hid (info_cr' (b := befL acc) hsok.1 (doneL_length acc) (befL_length acc))
          have HZ := Lib.hid (cv_size (b := befL acc) hsok.1 (doneL_length acc) (befL_length acc))
          clear hn1 hn2
          go_wp2_with (first | (refine wpList_load_row rfl 156 (.tmp 8) rfl C rfl 156 _ (0, 0) _ HC.out Tryz.underlying156 rfl HI.out ?_) | (refine wpList_store_row rfl 156 (.tmp 6) (.tmp 87) rfl R _ rfl rfl 156 _ HRr.out HI.out (by rw [HZ.out]; rfl) (cv_one _ _ _) ?_))
          have K := hp_row_same HRr.out (cv s (doneL acc) (befL acc))
          refine bodyPost_ret (v := .agg (cv s (doneL acc) (befL acc))) ?_ rfl ⟨by rw [HE.out], below_setRow hR.below hR.lt.2.2.2.1 _⟩
          exact results_cell_row (p := 6) (ty := 156) rfl _ _ R 156 _ (0, 0) _ (by simp [Act.put]) K Tryz.underlying156 rfl HI.out

end Go.Proofs.YtfclfmloceddfaaGreat

/- places, Run, Done, Before: contracts. -/
set_option linter.unusedVariables false
set_option linter.unusedSimpArgs false
namespace Go.Proofs.YtfclfmloceddfaaGreat
open Go.RowKit Tinker

/-- A slice's address leads to these bools. -/
def BoolsAt (w : World) (b off : Nat) (bs : List Bool) : Prop := ∀ j n, bs[j]? = some n → w.cell? ⟨b, off + j, none⟩ = some (.bool n)
theorem BoolsAt.below {w w' : World} {B b off : Nat} {bs : List Bool} (h : BoolsAt w b off bs) (hb : Below B w w') (hB : b < B) : BoolsAt w' b off bs :=
  fun j n hj => (hb.cell (p := ⟨b, off + j, none⟩) hB).trans (h j n hj)

theorem own_base {w : World} {base n size : Nat} {e : TypeId} {v : Value} {xs : List Value} (h : w.ownsRow base e size v n xs) : ∀ k, v.ownBlock = some k → base ≤ k := by
  intro k hk
  rcases h.2 with ⟨rfl, _⟩ | ⟨g, cap, cur, rfl, hg, _⟩
  · simp [Value.ownBlock] at hk
  · simp only [Value.ownBlock, Option.some.injEq] at hk; omega

set_option maxRecDepth 100000 in
set_option maxHeartbeats 400000 in
theorem places_any (b off cap : Nat) (bs : List Bool) (w : World) (hp : BoolsAt w b off bs) (hb : b < w.heap.size) (hm : bs.length ≤ 1000) :
    Calls Tryz.prog 88 #[.slice (some ⟨b, off, none⟩) bs.length cap] w (GivesInts (plc bs) w) := by
  obtain ⟨i0, hi, hz0, hz1, hz2⟩ := info_parts info_int
  go_enter Tryz.func88, Tryz.ntmps88
  go_wp2_with fail
  go_loopw [3, 8] (fun s3 s8 wr => ∃ k : Nat, k ≤ bs.length ∧ s8 = .int .i64 k ∧ wr.ownsRow w.heap.size 3 1 s3 (plcTo bs k).length ((plcTo bs k).map (Value.int .i64)) ∧ Below w.heap.size w wr) (fun _ s8 _ => bs.length - (intOf s8).toNat)
  case atStart => exact ⟨0, Nat.zero_le _, rfl, World.ownsRow_nil _ _ _ _, Below.refl _ _⟩
  case round =>
    obtain ⟨k, hk, rfl, hown, hB⟩ := hrel
    by_cases hlt : k < bs.length
    · obtain ⟨x, hx⟩ := get_of_lt hlt
      have hc := hp.below hB hb k x hx
      have HX := Lib.hid hx
      have hl := plcTo_length bs k
      cases x
      · have HO := Lib.hid hown
        clear hx hown hp
        go_wp2_with fail
        go_roundw
        case rel => exact ⟨k + 1, by omega, by go_num, by rw [plcTo_no HX.out]; exact HO.out, hB⟩
        case measure => simp [intOf]; omega
      · clear hx hp
        go_wp2_with (at_builtin; refine wpList_append_own _ rfl (.tmp 14) (.tmp 16) 37 rfl w.heap.size 3 i0 (.int .i64 0) 1 8 Tryz.underlying37 hi hz0 hz1 hz2 rfl (by decide) _ _ _ rfl (hown.alloc _) ⟨wr.heap.size, 0, none⟩ 1 1 [.int .i64 k] rfl rfl ?c1 ?c2 ?c3 ?c4 ?c5 ?_)
        case c1 => exact cell_one_new _ _ _
        case c2 => simp [Value.oneCell']
        case c3 => unfold maxLen; omega
        case c4 => omega
        case c5 => have := hB.size; simp; omega
        intro v' w1 hown' hgrow _
        have hB1 : Below w.heap.size w w1 := (hB.alloc hB.size _).grown hgrow (by have := hB.size; simp; omega) (own_base hown)
        have e : (plcTo bs k).map (Value.int .i64) ++ [.int .i64 k] = (plcTo bs (k + 1)).map (Value.int .i64) := by rw [plcTo_yes HX.out]; simp
        have e2 : (plcTo bs k).length + 1 = (plcTo bs (k + 1)).length := by rw [plcTo_yes HX.out]; simp
        rw [e, e2] at hown'
        have HO := Lib.hid hown'
        clear hown hown' hgrow e e2
        go_wp2_with fail
        go_roundw
        case rel => exact ⟨k + 1, by omega, by go_num, HO.out, hB1⟩
        case measure => simp [intOf]; omega
    · have hk' : k = bs.length := by omega
      subst hk'
      have HO := Lib.hid hown
      clear hown
      go_wp2_with fail
      go_ret
      exact givesInts_of rfl HO.out hB

end Go.Proofs.YtfclfmloceddfaaGreat

/- Run, Done, Before: contracts. -/
set_option linter.unusedVariables false
set_option linter.unusedSimpArgs false
namespace Go.Proofs.YtfclfmloceddfaaGreat
open Go.RowKit Tinker

/-- A new slice of numbers, and a code. -/
def GivesIntsE (zs : List Int) (c : Int) (w : World) (e : Ending) (w' : World) : Prop :=
  ∃ a cap, e = .returned (.tuple #[.slice a zs.length cap, .int .i64 c]) ∧ w'.ownsRow w.heap.size 3 1 (.slice a zs.length cap) zs.length (zs.map (Value.int .i64)) ∧ Below w.heap.size w w'
theorem givesIntsE_nil {c : Int} {w w' : World} (hB : Below w.heap.size w w') : GivesIntsE [] c w (.returned (.tuple #[.slice none 0 0, .int .i64 c])) w' := ⟨none, 0, rfl, World.ownsRow_nil _ _ _ _, hB⟩

/-- What Run answers. -/
def runL (p : List L) (s : List Int) : List Int := if vr p s = 0 then runE p s else []
/-- What Done answers. -/
def doneA (p : List L) (s : List Int) : List Int := if vr p s = 0 then plc (doneL (runS p s)) else []

theorem noF_eq : fOf (List.replicate 8 false) (List.replicate 8 0) = noF := by
  funext i
  unfold fOf noF
  have : (List.replicate 8 false).getD i false = false := by
    rw [List.getD_eq_getElem?_getD, List.getElem?_replicate]; split <;> rfl
  rw [this]; rfl
theorem fv0 : fv (List.replicate 8 false) (List.replicate 8 0) = #[.bool false, .bool false, .bool false, .bool false, .bool false, .bool false, .bool false, .bool false, .int .i64 0, .int .i64 0, .int .i64 0, .int .i64 0, .int .i64 0, .int .i64 0, .int .i64 0, .int .i64 0] := rfl

/-- follow, with nothing forced. -/
theorem follow_no (a : Option Addr) (ca : Nat) (ps : List L) (s : List Int) (w : World) (hp : LinesAt w a ps) (h : vr ps s = 0) :
    Calls Tryz.prog 136 #[.slice a ps.length ca, .agg (iv s), .agg #[.bool false, .bool false, .bool false, .bool false, .bool false, .bool false, .bool false, .bool false, .int .i64 0, .int .i64 0, .int .i64 0, .int .i64 0, .int .i64 0, .int .i64 0, .int .i64 0, .int .i64 0]] w fun e w' =>
      e = .returned (.agg (cv (runE ps s) (doneL (runS ps s)) (befL (runS ps s)))) ∧ Below w.heap.size w w' := by
  obtain ⟨h1, h2⟩ := vr_ok h
  obtain ⟨h3, h4⟩ := vp_ok h1
  have c := follow_any a ca ps s (List.replicate 8 false) (List.replicate 8 0) w hp h3 h4 (vs_ok h2) (by simp) (by simp) (by rw [noF_eq]; exact okF_no ps)
  rw [noF_eq, fv0] at c
  exact c

theorem runE_ok {p : List L} {s : List Int} (h : vr p s = 0) : okS (runE p s) := (tr_ok (okF_no p) _ 0 s (Nat.le_refl _) (vs_ok (vr_ok h).2)).1

theorem boolsOf {w : World} {C : Nat} {s : List Int} {d : List Bool} {b : List Int} {t : TypeId} (h : w.heap[C]? = some (.cells (cv s d b) t (0, 0))) (hs : s.length = 4) : BoolsAt w C 4 d := fun j n hj => by
  have hl : j < d.length := (List.getElem?_eq_some_iff.1 hj).1
  have := hp_cell h (cv_get1 (n := j) hs hl)
  rwa [getD_of_get hj] at this

theorem own_mono {w : World} {base base' n size : Nat} {e : TypeId} {v : Value} {xs : List Value} (h : w.ownsRow base e size v n xs) (hb : base' ≤ base) : w.ownsRow base' e size v n xs := by
  refine ⟨h.1, ?_⟩
  rcases h.2 with h | ⟨g, cap, cur, h1, h2, h3⟩
  · exact .inl h
  · exact .inr ⟨g, cap, cur, h1, Nat.le_trans hb h2, h3⟩
theorem GivesInts.wide {zs : List Int} {w w0 : World} {e : Ending} {w' : World} (h : GivesInts zs w e w') (hB : Below w0.heap.size w0 w) : GivesInts zs w0 e w' := by
  obtain ⟨a, c, he, ho, hb⟩ := h
  exact ⟨a, c, he, own_mono ho hB.size, hB.trans (hb.mono hB.size)⟩

theorem cv_state {w : World} {C : Nat} {s : List Int} {d : List Bool} {b : List Int} {t : TypeId} (h : w.heap[C]? = some (.cells (cv s d b) t (0, 0))) : ∀ j z, s[j]? = some z → w.cell? ⟨C, 0 + j, none⟩ = some (.int .i64 z) := fun j z hj => by
  have hl : j < s.length := (List.getElem?_eq_some_iff.1 hj).1
  have := hp_cell h (cv_get0 (n := j) (d := d) (b := b) hl)
  rw [getD_of_get hj] at this
  rw [Nat.zero_add]; exact this

set_option maxRecDepth 100000 in
set_option maxHeartbeats 400000 in
theorem run_any (a b : Option Addr) (ca cb : Nat) (ps : List L) (s : List Int) (w : World) (hp : LinesAt w a ps) (hs : IntsAt w b s) (hm : s.length ≤ 9223372036854775806) :
    Calls Tryz.prog 114 #[.slice a ps.length ca, .slice b s.length cb] w (GivesIntsE (runL ps s) (vr ps s) w) := by
  by_cases hz : vr ps s = 0
  · have hrl : runL ps s = runE ps s := by unfold runL; rw [if_pos hz]
    have hok := runE_ok hz
    have h4 := (vs_ok (vr_ok hz).2).1
    rw [hrl]
    clear hrl
    have HV := Lib.hid (validateRun_any a b ca cb ps s w hp hs hm)
    have HF := Lib.hid (fun w hp => follow_no a ca ps s w hp hz)
    have HS := Lib.hid (fun w hs => stateOf_any b cb s w h4 hs)
    have HZ := Lib.hid hz
    have H4 := Lib.hid hok.1
    clear h4 hz hok
    go_enter Tryz.func114, Tryz.ntmps114
    go_wp2_with fail
    refine HV.out.mono ?_
    rintro e w1 ⟨rfl, hB1⟩
    rw [HZ.out]
    go_wp2_with fail
    refine (HS.out _ (hs.below hB1 (Nat.le_refl _))).mono ?_
    rintro e w2 ⟨rfl, hB2⟩
    have hB3 := hB1.trans (hB2.mono hB1.size)
    go_wp2_with fail
    refine (HF.out _ (hp.below hB3 (Nat.le_refl _))).mono ?_
    rintro e w3 ⟨rfl, hB4⟩
    have hB5 := hB3.trans (hB4.mono hB3.size)
    have HI := Lib.hid (info_cr' (b := befL (runS ps s)) H4.out (doneL_length (runS ps s)) (befL_length _))
    have HZ2 := Lib.hid (cv_size (b := befL (runS ps s)) H4.out (doneL_length (runS ps s)) (befL_length _))
    have HC := Lib.hid (hp_row_same (cs := cv (runE ps s) (doneL (runS ps s)) (befL (runS ps s))) (hp_new (w := w3) (o := .cells cv0 156) rfl))
    have hB6 : Below w.heap.size w ((w3.alloc (.cells cv0 156)).setRow w3.heap.size (cv (runE ps s) (doneL (runS ps s)) (befL (runS ps s)))) := below_setRow (hB5.alloc hB5.size _) hB5.size _
    go_wp2_with (refine wpList_store_row rfl 156 (.tmp 7) (.tmp 18) rfl _ _ rfl rfl 156 _ (hp_new rfl) HI.out (by rw [HZ2.out]; rfl) (cv_one _ _ _) ?_)
    refine (cloneInts_any w3.heap.size 0 4 4 (runE ps s) _ H4.out (by omega) (by omega) (cv_state HC.out) (hp_lt HC.out)).mono ?_
    intro e w4 hG
    obtain ⟨a', c', rfl, hown, hB7⟩ := hG.wide hB6
    have HO := Lib.hid hown
    clear hown hG
    go_wp2_with fail
    go_ret2
    rw [HZ.out]
    exact ⟨a', c', rfl, HO.out, hB7⟩
  · have hrl : runL ps s = [] := by unfold runL; rw [if_neg hz]
    rw [hrl]
    clear hrl
    have HV := Lib.hid (validateRun_any a b ca cb ps s w hp hs hm)
    generalize vr ps s = c at *
    have hz1 : (c != 0) = true := by simpa using hz
    have hz2 : (c == 0) = false := by simpa using hz
    clear hz hp hs
    go_enter Tryz.func114, Tryz.ntmps114
    go_wp2_with fail
    refine HV.out.mono ?_
    rintro e w1 ⟨rfl, hB1⟩
    go_wp2_with fail
    go_ret2
    exact givesIntsE_nil hB1

end Go.Proofs.YtfclfmloceddfaaGreat
