/- Several texts in one. -/
import Derived.Test.YtmigkbimdjiigaaFollow
import Derived.Test.YtmigkbimdjiigaaPlain
/- places, Run, Done, Before: contracts. -/
set_option linter.unusedVariables false
set_option linter.unusedSimpArgs false
namespace Go.Proofs.Ytmigkbimdjiigaa
open Go.RowKit Tinker

/-- A slice's address leads to these bools. -/
def BoolsAt (w : World) (b off : Nat) (bs : List Bool) : Prop := ∀ j n, bs[j]? = some n → w.cell? ⟨b, off + j, none⟩ = some (.bool n)
theorem BoolsAt.below {w w' : World} {B b off : Nat} {bs : List Bool} (h : BoolsAt w b off bs) (hb : Below B w w') (hB : b < B) : BoolsAt w' b off bs :=
  fun j n hj => (hb.cell (p := ⟨b, off + j, none⟩) hB).trans (h j n hj)

theorem own_base {w : World} {base n size : Nat} {e : TypeId} {v : Value} {xs : List Value} (h : w.ownsRow base e size v n xs) : ∀ k, v.ownBlock = some k → base ≤ k := by
  intro k hk
  rcases h.2 with ⟨rfl, _⟩ | ⟨g, cap, cur, rfl, hg, _⟩
  · simp [Value.ownBlock] at hk
  · simp only [Value.ownBlock, Option.some.injEq] at hk; omega

set_option maxRecDepth 100000 in
set_option maxHeartbeats 400000 in
theorem places_any (b off cap : Nat) (bs : List Bool) (w : World) (hp : BoolsAt w b off bs) (hb : b < w.heap.size) (hm : bs.length ≤ 1000) :
    Calls Try.prog 73 #[.slice (some ⟨b, off, none⟩) bs.length cap] w (GivesInts (plc bs) w) := by
  obtain ⟨i0, hi, hz0, hz1, hz2⟩ := info_parts info_int
  go_enter Try.func73, Try.ntmps73
  go_wp2_with fail
  go_loopw [3, 8] (fun s3 s8 wr => ∃ k : Nat, k ≤ bs.length ∧ s8 = .int .i64 k ∧ wr.ownsRow w.heap.size 3 1 s3 (plcTo bs k).length ((plcTo bs k).map (Value.int .i64)) ∧ Below w.heap.size w wr) (fun _ s8 _ => bs.length - (intOf s8).toNat)
  case atStart => exact ⟨0, Nat.zero_le _, rfl, World.ownsRow_nil _ _ _ _, Below.refl _ _⟩
  case round =>
    obtain ⟨k, hk, rfl, hown, hB⟩ := hrel
    by_cases hlt : k < bs.length
    · obtain ⟨x, hx⟩ := get_of_lt hlt
      have hc := hp.below hB hb k x hx
      have HX := Lib.hid hx
      have hl := plcTo_length bs k
      cases x
      · have HO := Lib.hid hown
        clear hx hown hp
        go_wp2_with fail
        go_roundw
        case rel => exact ⟨k + 1, by omega, by go_num, by rw [plcTo_no HX.out]; exact HO.out, hB⟩
        case measure => simp [intOf]; omega
      · clear hx hp
        go_wp2_with (at_builtin; refine wpList_append_own _ rfl (.tmp 14) (.tmp 16) 23 rfl w.heap.size 3 i0 (.int .i64 0) 1 8 Try.underlying23 hi hz0 hz1 hz2 rfl (by decide) _ _ _ rfl (hown.alloc _) ⟨wr.heap.size, 0, none⟩ 1 1 [.int .i64 k] rfl rfl ?c1 ?c2 ?c3 ?c4 ?c5 ?_)
        case c1 => exact cell_one_new _ _ _
        case c2 => simp [Value.oneCell']
        case c3 => unfold maxLen; omega
        case c4 => omega
        case c5 => have := hB.size; simp; omega
        intro v' w1 hown' hgrow _
        have hB1 : Below w.heap.size w w1 := (hB.alloc hB.size _).grown hgrow (by have := hB.size; simp; omega) (own_base hown)
        have e : (plcTo bs k).map (Value.int .i64) ++ [.int .i64 k] = (plcTo bs (k + 1)).map (Value.int .i64) := by rw [plcTo_yes HX.out]; simp
        have e2 : (plcTo bs k).length + 1 = (plcTo bs (k + 1)).length := by rw [plcTo_yes HX.out]; simp
        rw [e, e2] at hown'
        have HO := Lib.hid hown'
        clear hown hown' hgrow e e2
        go_wp2_with fail
        go_roundw
        case rel => exact ⟨k + 1, by omega, by go_num, HO.out, hB1⟩
        case measure => simp [intOf]; omega
    · have hk' : k = bs.length := by omega
      subst hk'
      have HO := Lib.hid hown
      clear hown
      go_wp2_with fail
      go_ret
      exact givesInts_of rfl HO.out hB

end Go.Proofs.Ytmigkbimdjiigaa

/- Run, Done, Before: contracts. -/
set_option linter.unusedVariables false
set_option linter.unusedSimpArgs false
namespace Go.Proofs.Ytmigkbimdjiigaa
open Go.RowKit Tinker

/-- A new slice of numbers, and a code. -/
def GivesIntsE (zs : List Int) (c : Int) (w : World) (e : Ending) (w' : World) : Prop :=
  ∃ a cap, e = .returned (.tuple #[.slice a zs.length cap, .int .i64 c]) ∧ w'.ownsRow w.heap.size 3 1 (.slice a zs.length cap) zs.length (zs.map (Value.int .i64)) ∧ Below w.heap.size w w'
theorem givesIntsE_nil {c : Int} {w w' : World} (hB : Below w.heap.size w w') : GivesIntsE [] c w (.returned (.tuple #[.slice none 0 0, .int .i64 c])) w' := ⟨none, 0, rfl, World.ownsRow_nil _ _ _ _, hB⟩

/-- What Run answers. -/
def runL (p : List L) (s : List Int) : List Int := if vr p s = 0 then runE p s else []
/-- What Done answers. -/
def doneA (p : List L) (s : List Int) : List Int := if vr p s = 0 then plc (doneL (runS p s)) else []

theorem noF_eq : fOf (List.replicate 8 false) (List.replicate 8 0) = noF := by
  funext i
  unfold fOf noF
  have : (List.replicate 8 false).getD i false = false := by
    rw [List.getD_eq_getElem?_getD, List.getElem?_replicate]; split <;> rfl
  rw [this]; rfl
theorem fv0 : fv (List.replicate 8 false) (List.replicate 8 0) = #[.bool false, .bool false, .bool false, .bool false, .bool false, .bool false, .bool false, .bool false, .int .i64 0, .int .i64 0, .int .i64 0, .int .i64 0, .int .i64 0, .int .i64 0, .int .i64 0, .int .i64 0] := rfl

theorem runE_ok {p : List L} {s : List Int} (h : vr p s = 0) : okS (runE p s) := (tr_ok (okF_no p) _ 0 s (Nat.le_refl _) (vs_ok (vr_ok h).2)).1

theorem boolsOf {w : World} {C : Nat} {s : List Int} {d : List Bool} {b : List Int} {t : TypeId} (h : w.heap[C]? = some (.cells (cv s d b) t (0, 0))) (hs : s.length = 4) : BoolsAt w C 4 d := fun j n hj => by
  have hl : j < d.length := (List.getElem?_eq_some_iff.1 hj).1
  have := hp_cell h (cv_get1 (n := j) hs hl)
  rwa [getD_of_get hj] at this

theorem own_mono {w : World} {base base' n size : Nat} {e : TypeId} {v : Value} {xs : List Value} (h : w.ownsRow base e size v n xs) (hb : base' ≤ base) : w.ownsRow base' e size v n xs := by
  refine ⟨h.1, ?_⟩
  rcases h.2 with h | ⟨g, cap, cur, h1, h2, h3⟩
  · exact .inl h
  · exact .inr ⟨g, cap, cur, h1, Nat.le_trans hb h2, h3⟩
theorem GivesInts.wide {zs : List Int} {w w0 : World} {e : Ending} {w' : World} (h : GivesInts zs w e w') (hB : Below w0.heap.size w0 w) : GivesInts zs w0 e w' := by
  obtain ⟨a, c, he, ho, hb⟩ := h
  exact ⟨a, c, he, own_mono ho hB.size, hB.trans (hb.mono hB.size)⟩

theorem cv_state {w : World} {C : Nat} {s : List Int} {d : List Bool} {b : List Int} {t : TypeId} (h : w.heap[C]? = some (.cells (cv s d b) t (0, 0))) : ∀ j z, s[j]? = some z → w.cell? ⟨C, 0 + j, none⟩ = some (.int .i64 z) := fun j z hj => by
  have hl : j < s.length := (List.getElem?_eq_some_iff.1 hj).1
  have := hp_cell h (cv_get0 (n := j) (d := d) (b := b) hl)
  rw [getD_of_get hj] at this
  rw [Nat.zero_add]; exact this

end Go.Proofs.Ytmigkbimdjiigaa
