/- slices.Grow, slices.Concat of numbers: contracts. -/
import Derived.Test.YtmigkbimdjiigaaSuE
import Derived.Lib.AppendZerosOnto
import Derived.Lib.AppendZeros
import Derived.Lib.SliceRun
set_option linter.unusedVariables false
set_option linter.unusedSimpArgs false
namespace Go.Proofs.Ytmigkbimdjiigaa
open Go.RowKit Tinker

/-- A slice of no elements, with room. -/
def GivesRoom8 (w : World) (e : Ending) (w' : World) : Prop := ∃ v, e = .returned v ∧ w'.ownsRow w.heap.size 3 1 v 0 [] ∧ Below w.heap.size w w'

theorem zcells8 (c : Array Value) (hc : c.size = 1) (k : Nat) : (Builtin.zeroCells c k).size = k * 1 := by
  simp [Builtin.zeroCells, hc]

set_option maxRecDepth 100000 in
set_option maxHeartbeats 1000000 in
theorem grow8_any (n : Nat) (w : World) (hn : n ≤ 16) :
    Calls Try.prog 122 #[.slice none 0 0, .int .i64 n] w (GivesRoom8 w) := by
  obtain ⟨i0, hi, hz0, hz1, hz2⟩ := info_parts info_int
  rcases Nat.eq_zero_or_pos n with h0 | h0
  · subst h0
    go_enter Try.func122, Try.ntmps122
    go_wp2_with fail
    go_ret
    exact ⟨_, rfl, World.ownsRow_nil _ _ _ _, Below.refl _ _⟩
  · have hrz : ∀ ty, (Builtin.append_ #[23, 3] ty #[.slice none 0 0, .int .i64 n]).run Try.prog w =
        .ok (.slice (some ⟨w.heap.size, 0, none⟩) n (grownCap w n 0 3)) (w.drew.alloc (.cells (Builtin.zeroCells (Value.int .i64 0).cells n ++ Builtin.zeroCells (Value.int .i64 0).cells (grownCap w n 0 3 - n)) 3)) := fun ty => by
      have h := Lib.run_append_grow_zeros (P := Try.prog) w 23 3 ty 3 i0 _ .i64 .i64 Try.underlying23 Try.underlying3 hi hz0 none 0 0 [] (run_firstCells_none w.drew i0.size 0 0 0) n h0 (by omega) (by omega) (by omega) (by rw [hz2]; omega) (growslice_fits (by omega) (by rw [hz2]; omega))
      simp only [Nat.zero_add, Array.empty_append] at h
      exact h
    have hge := grownCap_ge w n 0 3
    have hle := grownCap_le_maxLen w n 0 3 (by unfold maxLen; omega)
    obtain ⟨G, hG⟩ : ∃ G, G = grownCap w n 0 3 := ⟨_, rfl⟩
    rw [← hG] at hrz hge hle
    have HG := Lib.hid hG
    have hG63 : G ≤ 9223372036854775807 := by unfold maxLen at hle; omega
    have hsz : (Builtin.zeroCells (Value.int .i64 0).cells n ++ Builtin.zeroCells (Value.int .i64 0).cells (G - n)).size = G * 1 := by
      rw [Array.size_append, zcells8 _ rfl, zcells8 _ rfl, ← Nat.add_mul]; congr 1; omega
    generalize Builtin.zeroCells (Value.int .i64 0).cells n ++ Builtin.zeroCells (Value.int .i64 0).cells (G - n) = cs at hrz hsz
    have HS := Lib.hid hsz
    have HH := Lib.hid hle
    have HR := Lib.hid hrz
    have hn0 : (0 : Int) < (n : Int) := by omega
    clear hG hsz hle hrz hi hz0 hz1 hz2
    go_enter Try.func122, Try.ntmps122
    go_wp2_with (at_builtin; refine Lib.wpList_append_run _ rfl _ _ _ _ rfl _ _ rfl rfl _ _ (HR.out _) ?_)
    go_ret
    refine ⟨_, rfl, ?_, ?_⟩
    · exact ⟨by simp, .inr ⟨w.heap.size, G, cs, rfl, Nat.le_refl _, hp_new rfl, Nat.zero_le _, HH.out, HS.out, by simp⟩⟩
    · exact (Below.refl _ _).drew.alloc (Nat.le_refl _) _

def catI8 (ps qs : List Int) (k : Nat) : List Int := if k = 0 then [] else if k = 1 then ps else ps ++ qs
theorem lc_cat8 (ps qs : List Int) : (catI8 ps qs 0).map (Value.int .i64) = [] := rfl
/-- A list of two slices in memory. -/
theorem two8 {W : World} {S : Nat} {a b : Option Addr} {n ca m cb : Nat} {t : TypeId} (h : W.heap[S]? = some (.cells #[.slice a n ca, .slice b m cb] t (0, 0))) : W.cell? ⟨S, 0, none⟩ = some (.slice a n ca) ∧ W.cell? ⟨S, 1, none⟩ = some (.slice b m cb) := ⟨hp_cell h (by rfl), hp_cell h (by rfl)⟩

set_option maxRecDepth 100000 in
set_option maxHeartbeats 2000000 in
theorem concat8_any (S : Nat) (a b : Option Addr) (ca cb : Nat) (ps qs : List Int) (t : TypeId) (w : World) (hS : w.heap[S]? = some (.cells #[.slice a ps.length ca, .slice b qs.length cb] t (0, 0))) (hp : IntsAt w a ps) (hc : a = none → ca = 0) (hq : IntsAt w b qs) (hd : b = none → cb = 0) (h8 : ps.length + qs.length ≤ 16) :
    Calls Try.prog 105 #[.slice (some ⟨S, 0, none⟩) 2 2] w (GivesInts (ps ++ qs) w) := by
  obtain ⟨i0, hi, hz0, hz1, hz2⟩ := info_parts info_int
  obtain ⟨c0, c1⟩ := two8 hS
  have HS := Lib.hid hS
  clear hS
  go_enter Try.func105, Try.ntmps105
  go_wp2_with fail
  go_loop [3, 11] (fun s3 s11 => ∃ k : Nat, k ≤ 2 ∧ s11 = .int .i64 k ∧ s3 = .int .i64 (catI8 ps qs k).length) (fun _ s11 => 2 - (intOf s11).toNat)
  case atStart => exact ⟨0, by omega, rfl, rfl⟩
  case round =>
    obtain ⟨k, hk, rfl, rfl⟩ := hrel
    have hk3 : k = 0 ∨ k = 1 ∨ k = 2 := by omega
    rcases hk3 with rfl | rfl | rfl
    · rw [show ((catI8 ps qs 0).length : Int) = 0 from rfl, show ((0 : Nat) : Int) = 0 from rfl]
      go_wp2_with fail
      go_round
      case rel => exact ⟨1, by omega, rfl, rfl⟩
      case measure => simp [intOf]
    · rw [show ((catI8 ps qs 1).length : Int) = (ps.length : Int) from rfl, show ((1 : Nat) : Int) = 1 from rfl]
      go_wp2_with fail
      go_round
      case rel => exact ⟨2, by omega, rfl, by unfold catI8; simp⟩
      case measure => simp [intOf]
    · rw [show ((catI8 ps qs 2).length : Int) = ((ps.length + qs.length : Nat) : Int) by unfold catI8; simp, show ((2 : Nat) : Int) = 2 from rfl]
      have hcl := Lib.hid (rfl : (2 : Nat) = 2)
      go_wp2_with fail
      refine (grow8_any (ps.length + qs.length) _ (by omega)).mono ?_
      intro e w1 hG
      obtain ⟨v, rfl, hown, hB⟩ := hG
      have hS1 := hp_below HS.out hB (hp_lt HS.out)
      obtain ⟨d0, d1⟩ := two8 hS1
      clear c0 c1 hS1
      go_wp2_with fail
      go_loopw [6, 27] (fun s6 s27 wr => ∃ k : Nat, k ≤ 2 ∧ s27 = .int .i64 k ∧ wr.ownsRow w.heap.size 3 1 s6 (catI8 ps qs k).length ((catI8 ps qs k).map (Value.int .i64)) ∧ Below w.heap.size w wr) (fun _ s27 _ => 2 - (intOf s27).toNat)
      case atStart => exact ⟨0, by omega, rfl, hown, hB⟩
      case round =>
        have hsz := hB.size
        clear hown hB d0 d1
        obtain ⟨k, hk, rfl, hown, hB⟩ := hrel
        have hS1 := hp_below HS.out hB (hp_lt HS.out)
        obtain ⟨d0, d1⟩ := two8 hS1
        by_cases hk0 : k = 0
        · have dk : wr.cell? ⟨S, k, none⟩ = some (.slice a ps.length ca) := by rw [hk0]; exact d0
          rw [show catI8 ps qs k = [] by rw [hk0]; rfl] at hown
          have HN := Lib.hid (show catI8 ps qs (k + 1) = [] ++ ps by rw [hk0]; unfold catI8; simp)
          have hk2 : (k : Int) < 2 := by omega
          clear d0 d1 hk0
          cases a with
          | none =>
            have HPS := Lib.hid hp.none
            rw [show ps.length = 0 by rw [HPS.out]; rfl, hc rfl] at dk
            have HO := Lib.hid hown
            go_wp2_with (at_builtin; (refine wpList_append_own_none rfl (.tmp 31) (.tmp 32) 23 rfl w.heap.size 3 i0 1 Try.underlying23 hi _ _ _ rfl hown rfl ?_))
            clear hown
            go_wp2_with fail
            go_roundw
            case rel => exact ⟨k + 1, by omega, by go_num, by rw [HN.out, HPS.out, List.append_nil]; exact HO.out, hB⟩
            case measure => simp [intOf]; omega
          | some ad =>
            have HC := Lib.hid ((hp.below hB (Nat.le_refl _)).cells)
            go_wp2_with (at_builtin; (refine wpList_append_own _ rfl (.tmp 31) (.tmp 32) 23 rfl w.heap.size 3 i0 (.int .i64 0) 1 8 Try.underlying23 hi hz0 hz1 hz2 rfl (by decide) _ _ _ rfl hown ad ps.length ca (ps.map (Value.int .i64)) rfl ?c1 ?c2 ?c3 ?c4 ?c5 ?c6 ?_))
            case c1 => exact (by rw [List.length_map, Nat.mul_one])
            case c2 => intro j u hu; exact HC.out j u hu
            case c3 => exact (by intro u hu; obtain ⟨x, _, rfl⟩ := List.mem_map.1 hu; rfl)
            case c4 => simp [maxLen]; omega
            case c5 => simp; omega
            case c6 => exact hB.size
            intro v' w2 hown1 hgrow _
            have hB1 : Below w.heap.size w w2 := hB.grown hgrow hB.size (own_base hown)
            have HO := Lib.hid hown1
            clear hown1 hgrow hown
            go_wp2_with fail
            go_roundw
            case rel => exact ⟨k + 1, by omega, by go_num, by rw [HN.out, List.map_append, List.length_append]; first | exact HO.out | (have q := HO.out; rw [← Nat.zero_add ps.length] at q; exact q), hB1⟩
            case measure => simp [intOf]; omega
        · by_cases hk1 : k = 1
          · have hk0 := hk1
            clear hk1
            have dk : wr.cell? ⟨S, k, none⟩ = some (.slice b qs.length cb) := by rw [hk0]; exact d1
            rw [show catI8 ps qs k = ps by rw [hk0]; rfl] at hown
            have HN := Lib.hid (show catI8 ps qs (k + 1) = ps ++ qs by rw [hk0]; unfold catI8; simp)
            have hk2 : (k : Int) < 2 := by omega
            clear d0 d1 hk0
            cases b with
            | none =>
              have HPS := Lib.hid hq.none
              rw [show qs.length = 0 by rw [HPS.out]; rfl, hd rfl] at dk
              have HO := Lib.hid hown
              go_wp2_with (at_builtin; (refine wpList_append_own_none rfl (.tmp 31) (.tmp 32) 23 rfl w.heap.size 3 i0 1 Try.underlying23 hi _ _ _ rfl hown rfl ?_))
              clear hown
              go_wp2_with fail
              go_roundw
              case rel => exact ⟨k + 1, by omega, by go_num, by rw [HN.out, HPS.out, List.append_nil]; exact HO.out, hB⟩
              case measure => simp [intOf]; omega
            | some ad =>
              have HC := Lib.hid ((hq.below hB (Nat.le_refl _)).cells)
              go_wp2_with (at_builtin; (refine wpList_append_own _ rfl (.tmp 31) (.tmp 32) 23 rfl w.heap.size 3 i0 (.int .i64 0) 1 8 Try.underlying23 hi hz0 hz1 hz2 rfl (by decide) _ _ _ rfl hown ad qs.length cb (qs.map (Value.int .i64)) rfl ?d1 ?d2 ?d3 ?d4 ?d5 ?d6 ?_))
              case d1 => exact (by rw [List.length_map, Nat.mul_one])
              case d2 => intro j u hu; exact HC.out j u hu
              case d3 => exact (by intro u hu; obtain ⟨x, _, rfl⟩ := List.mem_map.1 hu; rfl)
              case d4 => simp [maxLen]; omega
              case d5 => omega
              case d6 => exact hB.size
              intro v' w2 hown1 hgrow _
              have hB1 : Below w.heap.size w w2 := hB.grown hgrow hB.size (own_base hown)
              have HO := Lib.hid hown1
              clear hown1 hgrow hown
              go_wp2_with fail
              go_roundw
              case rel => exact ⟨k + 1, by omega, by go_num, by rw [HN.out, List.map_append, List.length_append]; first | exact HO.out | (have q := HO.out; rw [← Nat.zero_add ps.length] at q; exact q), hB1⟩
              case measure => simp [intOf]; omega
          · have hk2 : k = 2 := by omega
            have hk2' : ¬ (k : Int) < 2 := by omega
            rw [show catI8 ps qs k = ps ++ qs by rw [hk2]; rfl] at hown
            have HO := Lib.hid hown
            clear hown hk2
            go_wp2_with fail
            go_ret
            exact givesInts_of rfl HO.out hB

end Go.Proofs.Ytmigkbimdjiigaa
