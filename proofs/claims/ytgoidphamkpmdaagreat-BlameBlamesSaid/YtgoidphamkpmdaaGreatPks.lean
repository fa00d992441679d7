/- All lists of numbers that the document's side tries: contract. -/
import Derived.Test.YtgoidphamkpmdaaGreatStC
import Derived.Test.YtgoidphamkpmdaaGreatStB
import Derived.Test.YtgoidphamkpmdaaGreatStR
import Derived.Test.YtgoidphamkpmdaaGreatBlI
set_option linter.unusedVariables false
set_option linter.unusedSimpArgs false
namespace Go.Proofs.YtgoidphamkpmdaaGreat
open Go.RowKit Tinker

/-- All lists of k numbers, in ascending order. -/
def pkL (l : Int) : Nat → List (List Int)
  | 0 => [[]]
  | k + 1 => (pkL l k).flatMap (Tinker.exP l 12)
theorem pkL_in {l : Int} : ∀ {k : Nat} {s : List Int}, s ∈ pkL l k → s.length = k
  | 0, s, h => by simp [pkL] at h; subst h; rfl
  | k + 1, s, h => by
    obtain ⟨y, hy, hs⟩ := List.mem_flatMap.1 h
    unfold Tinker.exP at hs
    obtain ⟨n, _, rfl⟩ := List.mem_map.1 hs
    rw [List.length_append, pkL_in hy]; rfl
theorem pkL_len {l : Int} (h : l = -12) : ∀ {k : Nat}, k ≤ 2 → (pkL l k).length ≤ 625 := by
  subst h
  intro k hk
  have e : ∀ k, (pkL (-12) (k + 1)).length = (pkL (-12) k).length * 25 := fun k => flat_len (fun x _ => exP_length _ _ _)
  have h0 : (pkL (-12) 0).length = 1 := rfl
  have h1 : (pkL (-12) 1).length = (pkL (-12) 0).length * 25 := e 0
  have h2 : (pkL (-12) 2).length = (pkL (-12) 1).length * 25 := e 1
  match k, hk with
  | 0, _ => omega
  | 1, _ => omega
  | 2, _ => omega
theorem RowsZ.all {W : World} {a : Option Addr} {r : Nat} {fs : List (List Int)} (h : RowsZ W a r fs) : RowsAt W a fs := by
  rcases h with ⟨h1, h2, b, h3, h4, h5⟩ | ⟨_, h2⟩
  · refine .inr ⟨b, 0, h3, h4, fun j zs hj => ?_⟩
    subst h2
    match j, hj with
    | 0, hj => simp at hj; subst hj; exact ⟨none, 0, h5, .inl rfl⟩
    | j + 1, hj => simp at hj
  · exact h2

set_option maxRecDepth 100000 in
set_option maxHeartbeats 4000000 in
theorem rPicks_any (n : Nat) (hn : n ≤ 2) (w : World) :
    Calls Tryz.prog 51 #[.int .i64 n] w (GivesRows (pkL (-12) n) w) := by
  obtain ⟨i0, hii, hz0, hz1, hz2⟩ := info_parts info_int
  obtain ⟨j0, hj, jz0, jz1, jz2⟩ := info_parts info_ints
  obtain ⟨l, hl⟩ : ∃ l : Int, l = -12 := ⟨_, rfl⟩
  have HLL := Lib.hid hl
  have b1 : -12 ≤ l := by omega
  have b2 : l ≤ -12 := by omega
  rw [← hl]
  have HMX := Lib.hid (fun k (h : k ≤ 2) => pkL_len hl (k := k) h)
  clear hl
  go_enter Tryz.func51, Tryz.ntmps51
  go_wp2_with fail
  go_loopw [3, 4] (fun s3 s4 wr => ∃ (r : Nat) (aa : Option Addr) (cc : Nat), r ≤ n ∧ s4 = .int .i64 r ∧ s3 = .slice aa (pkL l r).length cc ∧ RowsZ wr aa r (pkL l r) ∧ Below w.heap.size w wr) (fun _ s4 _ => n - (intOf s4).toNat)
  case atStart => exact ⟨0, _, _, by omega, rfl, rfl, .inl ⟨rfl, rfl, _, rfl, by simp, hp_cell (hp_new rfl) (by rfl)⟩, (Below.refl _ _).alloc (Nat.le_refl _) _⟩
  case round =>
    obtain ⟨r, aa, cc, hr, rfl, rfl, hR, hI⟩ := hrel
    obtain ⟨wo, rfl⟩ : ∃ wo : World, wo = wr := ⟨_, rfl⟩
    by_cases hr4 : r < n
    · have HS1 := Lib.hid (show pkL l (r + 1) = (pkL l r).flatMap (Tinker.exP l 12) from rfl)
      have HMAX := Lib.hid (HMX.out (r + 1) (by omega))
      have hn4 := HMX.out r (by omega)
      have HLEN := Lib.hid (fun s (hs : s ∈ pkL l r) => pkL_in hs)
      rw [HS1.out] at HMAX
      generalize hfs1 : pkL l (r + 1) = fs1 at HS1
      have HF1 := Lib.hid hfs1
      clear hfs1
      generalize pkL l r = fs at *
      have HI := Lib.hid hI
      have HR := Lib.hid hR
      have hwo := hI.size
      clear hI hR
      go_wp2_with fail
      go_loopw [5, 6] (fun s5 s6 wr => ∃ (i : Nat) (xs : List Value), i ≤ fs.length ∧ s6 = .int .i64 i ∧ RowsI wo s5 ((fs.take i).flatMap (Tinker.exP l 12)) xs wr) (fun _ s6 _ => fs.length - (intOf s6).toNat)
      case atStart => exact ⟨0, [], Nat.zero_le _, rfl, by simpa using RowsI.nil (Below.refl wo.heap.size wo)⟩
      case round =>
        obtain ⟨i, xs, hif, rfl, hJ⟩ := hrel
        obtain ⟨wm, rfl⟩ : ∃ wm : World, wm = wr := ⟨_, rfl⟩
        by_cases hlt : i < fs.length
        · obtain ⟨gb, go, s, a', c', rfl, hgb, hs, cg, hsi, hcase⟩ := HR.out.at_ HLEN.out hlt
          have HSL := Lib.hid (HLEN.out s (mem_of_get hs))
          have HTK := Lib.hid (take_flat (f := Tinker.exP l 12) hs)
          have HPL := Lib.hid (Nat.le_trans (take_flat_le (f := Tinker.exP l 12) (fun x _ => exP_length l 12 x) hlt) HMAX.out)
          generalize (fs.take i).flatMap (Tinker.exP l 12) = pre at *
          have HJ := Lib.hid hJ
          have HSI := Lib.hid hsi
          have HCS := Lib.hid hcase
          clear hJ hs hsi hcase
          go_wp2_with fail
          go_loopw [5, 7] (fun s5 s7 wr => ∃ (k : Nat) (xs : List Value), k ≤ (12 - l + 1).toNat ∧ s7 = .int .i64 (l + (k : Int)) ∧ RowsI wo s5 (pre ++ (Tinker.exP l 12 s).take k) xs wr) (fun _ s7 _ => (12 + 1 - intOf s7).toNat)
          case atStart => exact ⟨0, xs, Nat.zero_le _, by rw [HLL.out]; rfl, by simpa using HJ.out⟩
          case round =>
            clear HJ
            obtain ⟨k, xs, hk, rfl, hJ⟩ := hrel
            by_cases hlt2 : l + (k : Int) ≤ 12
            · have HTS := Lib.hid (exP_take (s := s) (show k < (12 - l + 1).toNat by omega))
              have HPK := Lib.hid (show (pre ++ (Tinker.exP l 12 s).take k).length + 1 ≤ 700 by rw [List.length_append, List.length_take, exP_length]; have := HPL.out; omega)
              have HAP := Lib.hid (show ∀ b, wr.heap.size ≤ b → u5.ownBlock ≠ some b from fun b hb e => by have := own_val_lt hJ.out e; omega)
              have hws := hJ.below.size
              have hs4 : s.length ≤ 2 := by rw [HSL.out]; omega
              have cg1 := (hJ.below.cell (p := ⟨gb, _, none⟩) hgb).trans cg
              have hsi1 := HSI.out.below hJ.below (Nat.le_refl _)
              have HJ := Lib.hid hJ
              have hgw : gb < wr.heap.size := by omega
              have hown0 := World.ownsRow_lit (base := wr.heap.size) (e := 3) (size := 1) wr #[] 0 (Nat.le_refl _) (by simp [maxLen]) (by simp)
              clear hJ
              rcases HCS.out with ⟨rfl, rfl, rfl⟩ | ⟨q, rfl⟩
              · clear hsi1
                have hB1 : Below wr.heap.size wr (wr.alloc (.cells #[] 3)) := (Below.refl _ _).alloc (Nat.le_refl _) _
                have HB1 := Lib.hid hB1
                have HO1 := Lib.hid (hown0.alloc (.cells #[.int .i64 (l + (k : Int))] 3))
                have hsz1 := hB1.size
                have HC1 := Lib.hid (cell_one_new (wr.alloc (.cells #[] 3)) (.int .i64 (l + (k : Int))) 3)
                clear hown0 hB1
                go_wp2_with (at_builtin; (refine wpList_append_own_at _ rfl (.tmp 30) (.tmp 32) 34 rfl wr.heap.size 3 i0 (.int .i64 0) 1 8 Tryz.underlying34 hii hz0 hz1 hz2 rfl (by decide) _ 0 [] rfl HO1.out ⟨wr.heap.size + 1, 0, none⟩ 1 1 [.int .i64 (l + (k : Int))] rfl ?p1 ?p2 ?p3 ?p4 ?p5 ?p6 ?_))
                case p3 => simp [Value.oneCell']
                case p4 => unfold maxLen; omega
                case p6 => first | omega | (simp; omega)
                intro v2 w2 hown2 hgrow2 _ hat2
                have hB2 : Below wr.heap.size wr w2 := (HB1.out.alloc hsz1 _).grown hgrow2 (by simp; omega) (by exact own_base HO1.out)
                have hown2' : w2.ownsRow wr.heap.size 3 1 v2 1 ((([] : List Int) ++ [l + (k : Int)]).map (Value.int .i64)) := by simpa using hown2
                obtain ⟨a2, k2, rfl⟩ := own_slice hown2'
                have HZL := Lib.hid (show (([] : List Int) ++ [l + (k : Int)]).length = 1 by simp)
                have hJ2 := HJ.out.low hB2
                have hal : Below w2.heap.size w2 (w2.alloc (.cells #[.slice a2 1 k2] 34)) := (Below.refl _ _).alloc (Nat.le_refl _) _
                have hOL := (((ownL_of hown2').apart (o := u5.ownBlock) (fun b hb => HAP.out b hb)).wide hws).low hal
                have HR3 := Lib.hid (hJ2.low hal)
                have hs2 := hB2.size
                have HOL := Lib.hid hOL
                clear hown2 hown2' hgrow2 hat2 hJ2 hal hOL hB2
                go_wp2_with (at_builtin; (refine wpList_append_own_at _ rfl (.tmp 24) (.tmp 34) 27 rfl wo.heap.size 34 j0 (.slice none 0 0) 1 24 Tryz.underlying27 hj jz0 jz1 jz2 rfl (by decide) _ _ xs rfl HR3.out.out ⟨w2.heap.size, 0, none⟩ 1 1 [.slice a2 1 k2] rfl ?q1 ?q2 ?q3 ?q4 ?q5 ?q6 ?_))
                case q1 => rfl
                case q2 => exact cell_one_new _ _ _
                case q3 => simp [Value.oneCell']
                case q4 => unfold maxLen; have := HPK.out; simp only [List.length_append, List.length_take] at this ⊢; omega
                case q5 => have := HPK.out; simp only [List.length_append, List.length_take] at this ⊢; omega
                case q6 => simp; omega
                intro v3 w3 hown3 hgrow3 _ hat3
                have hP := HR3.out.push (c := k2) HOL.out (by rw [HZL.out, List.length_append, List.length_take]; exact hown3) hgrow3 (by simpa using hat3)
                rw [List.append_assoc, ← HTS.out] at hP
                have HP := Lib.hid hP
                clear hown3 hgrow3 hat3 hP
                go_wp2_with fail
                go_roundw
                case rel => exact ⟨k + 1, _, by omega, by go_num, HP.out⟩
                case measure => simp [intOf]; omega
              · have HCL := Lib.hid hsi1.cells
                clear hsi1
                go_wp2_with (at_builtin; (refine wpList_append_own _ rfl (.tmp 25) (.tmp 29) 34 rfl wr.heap.size 3 i0 (.int .i64 0) 1 8 Tryz.underlying34 hii hz0 hz1 hz2 rfl (by decide) _ 0 [] rfl hown0 q s.length c' (s.map (Value.int .i64)) rfl ?c1 ?c2 ?c3 ?c4 ?c5 ?c6 ?_))
                case c2 => exact fun j z hz => cell_alloc_keep (HCL.out j (.int .i64 z) (by simp [hz]))
                case c3 => simp [Value.oneCell']
                case c4 => simp [maxLen]; omega
                case c5 => omega
                intro v' W1 hown1 hgrow _
                have hB1 : Below wr.heap.size wr W1 := ((Below.refl _ _).alloc (Nat.le_refl _) _).grown hgrow (by simp) (by rintro k hk; simp [Value.ownBlock] at hk; omega)
                clear hown0 hgrow
                -- the state and its new number
                have HB1 := Lib.hid hB1
                have HO1 := Lib.hid (hown1.alloc (.cells #[.int .i64 (l + (k : Int))] 3))
                have hsz1 := hB1.size
                clear hown1 hB1
                go_wp2_with (at_builtin; (refine wpList_append_own_at _ rfl (.tmp 30) (.tmp 32) 34 rfl wr.heap.size 3 i0 (.int .i64 0) 1 8 Tryz.underlying34 hii hz0 hz1 hz2 rfl (by decide) _ s.length (s.map (Value.int .i64)) rfl HO1.out ⟨W1.heap.size, 0, none⟩ 1 1 [.int .i64 (l + (k : Int))] rfl ?e1 ?e2 ?e3 ?e4 ?e5 ?e6 ?_))
                case e1 => rfl
                case e2 => exact cell_one_new _ _ _
                case e3 => simp [Value.oneCell']
                case e4 => unfold maxLen; omega
                case e5 => omega
                case e6 => simp; omega
                intro v2 w2 hown2 hgrow2 _ hat2
                have hB2 : Below wr.heap.size wr w2 := (HB1.out.alloc hsz1 _).grown hgrow2 (by simp; omega) (by exact own_base HO1.out)
                have hown2' : w2.ownsRow wr.heap.size 3 1 v2 (s.length + 1) ((s ++ [l + (k : Int)]).map (Value.int .i64)) := by simpa using hown2
                obtain ⟨a2, k2, rfl⟩ := own_slice hown2'
                have HZL := Lib.hid (show (s ++ [l + (k : Int)]).length = (s.length + 1) by simp)
                have hJ2 := HJ.out.low hB2
                have hal : Below w2.heap.size w2 (w2.alloc (.cells #[.slice a2 (s.length + 1) k2] 34)) := (Below.refl _ _).alloc (Nat.le_refl _) _
                have hOL := (((ownL_of hown2').apart (o := u5.ownBlock) (fun b hb => HAP.out b hb)).wide hws).low hal
                have HR3 := Lib.hid (hJ2.low hal)
                have hs2 := hB2.size
                have HOL := Lib.hid hOL
                clear hown2 hown2' hgrow2 hat2 hJ2 hal hOL hB2
                go_wp2_with (at_builtin; (refine wpList_append_own_at _ rfl (.tmp 24) (.tmp 34) 27 rfl wo.heap.size 34 j0 (.slice none 0 0) 1 24 Tryz.underlying27 hj jz0 jz1 jz2 rfl (by decide) _ _ xs rfl HR3.out.out ⟨w2.heap.size, 0, none⟩ 1 1 [.slice a2 (s.length + 1) k2] rfl ?d1 ?d2 ?d3 ?d4 ?d5 ?d6 ?_))
                case d1 => rfl
                case d2 => exact cell_one_new _ _ _
                case d3 => simp [Value.oneCell']
                case d4 => unfold maxLen; have := HPK.out; simp only [List.length_append, List.length_take] at this ⊢; omega
                case d5 => have := HPK.out; simp only [List.length_append, List.length_take] at this ⊢; omega
                case d6 => simp; omega
                intro v3 w3 hown3 hgrow3 _ hat3
                have hP := HR3.out.push (c := k2) HOL.out (by rw [HZL.out, List.length_append, List.length_take]; exact hown3) hgrow3 (by simpa using hat3)
                rw [List.append_assoc, ← HTS.out] at hP
                have HP := Lib.hid hP
                clear hown3 hgrow3 hat3 hP
                go_wp2_with fail
                go_roundw
                case rel => exact ⟨k + 1, _, by omega, by go_num, HP.out⟩
                case measure => simp [intOf]; omega
            · obtain rfl : k = (12 - l + 1).toNat := by omega
              rw [List.take_of_length_le (by rw [exP_length]; exact Nat.le_refl _), ← HTK.out] at hJ
              have HJ := Lib.hid hJ
              clear hJ
              go_wp2_with fail
              go_roundw
              case rel => exact ⟨i + 1, _, by omega, by go_num, HJ.out⟩
              case measure => simp [intOf]; omega
        · obtain rfl : i = fs.length := by omega
          rw [List.take_of_length_le (Nat.le_refl _), ← HS1.out] at hJ
          obtain ⟨a2, k2, rfl⟩ := own_slice hJ.out
          have HJ := Lib.hid hJ
          clear hJ
          go_wp2_with fail
          go_roundw
          case rel => exact ⟨r + 1, a2, k2, by omega, by go_num, by rw [HF1.out], .inr ⟨by omega, by rw [HF1.out]; exact HJ.out.at_.1⟩, HI.out.trans (HJ.out.below.mono HI.out.size)⟩
          case measure => simp [intOf]; omega
    · obtain rfl : r = n := by omega
      have HI := Lib.hid hI
      have HR := Lib.hid hR.all
      clear hI hR
      go_wp2_with fail
      go_ret
      exact ⟨aa, cc, rfl, HR.out, HI.out⟩

end Go.Proofs.YtgoidphamkpmdaaGreat
