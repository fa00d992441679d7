/- Several texts in one. -/
import Derived.Test.YtigaklppdlknkaaGreatStC
import Derived.Test.YtigaklppdlknkaaGreatStB
import Derived.Test.YtigaklppdlknkaaGreatStR
import Derived.Test.YtigaklppdlknkaaGreatBlI
import Derived.Test.YtigaklppdlknkaaGreatBlP
import Derived.BigQuiet
/- All lists of numbers that the document's side tries: contract. -/
set_option linter.unusedVariables false
set_option linter.unusedSimpArgs false
namespace Go.Proofs.YtigaklppdlknkaaGreat
open Go.RowKit Tinker

/-- All lists of k numbers, in ascending order. -/
def pkL (l : Int) : Nat → List (List Int)
  | 0 => [[]]
  | k + 1 => (pkL l k).flatMap (Tinker.exP l 12)
theorem pkL_in {l : Int} : ∀ {k : Nat} {s : List Int}, s ∈ pkL l k → s.length = k
  | 0, s, h => by simp [pkL] at h; subst h; rfl
  | k + 1, s, h => by
    obtain ⟨y, hy, hs⟩ := List.mem_flatMap.1 h
    unfold Tinker.exP at hs
    obtain ⟨n, _, rfl⟩ := List.mem_map.1 hs
    rw [List.length_append, pkL_in hy]; rfl
theorem pkL_len {l : Int} (h : l = -12) : ∀ {k : Nat}, k ≤ 2 → (pkL l k).length ≤ 625 := by
  subst h
  intro k hk
  have e : ∀ k, (pkL (-12) (k + 1)).length = (pkL (-12) k).length * 25 := fun k => flat_len (fun x _ => exP_length _ _ _)
  have h0 : (pkL (-12) 0).length = 1 := rfl
  have h1 : (pkL (-12) 1).length = (pkL (-12) 0).length * 25 := e 0
  have h2 : (pkL (-12) 2).length = (pkL (-12) 1).length * 25 := e 1
  match k, hk with
  | 0, _ => omega
  | 1, _ => omega
  | 2, _ => omega
theorem RowsZ.all {W : World} {a : Option Addr} {r : Nat} {fs : List (List Int)} (h : RowsZ W a r fs) : RowsAt W a fs := by
  rcases h with ⟨h1, h2, b, h3, h4, h5⟩ | ⟨_, h2⟩
  · refine .inr ⟨b, 0, h3, h4, fun j zs hj => ?_⟩
    subst h2
    match j, hj with
    | 0, hj => simp at hj; subst hj; exact ⟨none, 0, h5, .inl rfl⟩
    | j + 1, hj => simp at hj
  · exact h2

set_option maxRecDepth 100000 in
set_option maxHeartbeats 4000000 in
theorem rPicks_any (n : Nat) (hn : n ≤ 2) (w : World) :
    Calls Tryz.prog 67 #[.int .i64 n] w (GivesRows (pkL (-12) n) w) := by
  obtain ⟨i0, hii, hz0, hz1, hz2⟩ := info_parts info_int
  obtain ⟨j0, hj, jz0, jz1, jz2⟩ := info_parts info_ints
  obtain ⟨l, hl⟩ : ∃ l : Int, l = -12 := ⟨_, rfl⟩
  have HLL := Lib.hid hl
  have b1 : -12 ≤ l := by omega
  have b2 : l ≤ -12 := by omega
  rw [← hl]
  have HMX := Lib.hid (fun k (h : k ≤ 2) => pkL_len hl (k := k) h)
  clear hl
  go_enter Tryz.func67, Tryz.ntmps67
  go_wp2_with fail
  go_loopw [3, 4] (fun s3 s4 wr => ∃ (r : Nat) (aa : Option Addr) (cc : Nat), r ≤ n ∧ s4 = .int .i64 r ∧ s3 = .slice aa (pkL l r).length cc ∧ RowsZ wr aa r (pkL l r) ∧ Below w.heap.size w wr) (fun _ s4 _ => n - (intOf s4).toNat)
  case atStart => exact ⟨0, _, _, by omega, rfl, rfl, .inl ⟨rfl, rfl, _, rfl, by simp, hp_cell (hp_new rfl) (by rfl)⟩, (Below.refl _ _).alloc (Nat.le_refl _) _⟩
  case round =>
    obtain ⟨r, aa, cc, hr, rfl, rfl, hR, hI⟩ := hrel
    obtain ⟨wo, rfl⟩ : ∃ wo : World, wo = wr := ⟨_, rfl⟩
    by_cases hr4 : r < n
    · have HS1 := Lib.hid (show pkL l (r + 1) = (pkL l r).flatMap (Tinker.exP l 12) from rfl)
      have HMAX := Lib.hid (HMX.out (r + 1) (by omega))
      have hn4 := HMX.out r (by omega)
      have HLEN := Lib.hid (fun s (hs : s ∈ pkL l r) => pkL_in hs)
      rw [HS1.out] at HMAX
      generalize hfs1 : pkL l (r + 1) = fs1 at HS1
      have HF1 := Lib.hid hfs1
      clear hfs1
      generalize pkL l r = fs at *
      have HI := Lib.hid hI
      have HR := Lib.hid hR
      have hwo := hI.size
      clear hI hR
      go_wp2_with fail
      go_loopw [5, 6] (fun s5 s6 wr => ∃ (i : Nat) (xs : List Value), i ≤ fs.length ∧ s6 = .int .i64 i ∧ RowsI wo s5 ((fs.take i).flatMap (Tinker.exP l 12)) xs wr) (fun _ s6 _ => fs.length - (intOf s6).toNat)
      case atStart => exact ⟨0, [], Nat.zero_le _, rfl, by simpa using RowsI.nil (Below.refl wo.heap.size wo)⟩
      case round =>
        obtain ⟨i, xs, hif, rfl, hJ⟩ := hrel
        obtain ⟨wm, rfl⟩ : ∃ wm : World, wm = wr := ⟨_, rfl⟩
        by_cases hlt : i < fs.length
        · obtain ⟨gb, go, s, a', c', rfl, hgb, hs, cg, hsi, hcase⟩ := HR.out.at_ HLEN.out hlt
          have HSL := Lib.hid (HLEN.out s (mem_of_get hs))
          have HTK := Lib.hid (take_flat (f := Tinker.exP l 12) hs)
          have HPL := Lib.hid (Nat.le_trans (take_flat_le (f := Tinker.exP l 12) (fun x _ => exP_length l 12 x) hlt) HMAX.out)
          generalize (fs.take i).flatMap (Tinker.exP l 12) = pre at *
          have HJ := Lib.hid hJ
          have HSI := Lib.hid hsi
          have HCS := Lib.hid hcase
          clear hJ hs hsi hcase
          go_wp2_with fail
          go_loopw [5, 7] (fun s5 s7 wr => ∃ (k : Nat) (xs : List Value), k ≤ (12 - l + 1).toNat ∧ s7 = .int .i64 (l + (k : Int)) ∧ RowsI wo s5 (pre ++ (Tinker.exP l 12 s).take k) xs wr) (fun _ s7 _ => (12 + 1 - intOf s7).toNat)
          case atStart => exact ⟨0, xs, Nat.zero_le _, by rw [HLL.out]; rfl, by simpa using HJ.out⟩
          case round =>
            clear HJ
            obtain ⟨k, xs, hk, rfl, hJ⟩ := hrel
            by_cases hlt2 : l + (k : Int) ≤ 12
            · have HTS := Lib.hid (exP_take (s := s) (show k < (12 - l + 1).toNat by omega))
              have HPK := Lib.hid (show (pre ++ (Tinker.exP l 12 s).take k).length + 1 ≤ 700 by rw [List.length_append, List.length_take, exP_length]; have := HPL.out; omega)
              have HAP := Lib.hid (show ∀ b, wr.heap.size ≤ b → u5.ownBlock ≠ some b from fun b hb e => by have := own_val_lt hJ.out e; omega)
              have hws := hJ.below.size
              have hs4 : s.length ≤ 2 := by rw [HSL.out]; omega
              have cg1 := (hJ.below.cell (p := ⟨gb, _, none⟩) hgb).trans cg
              have hsi1 := HSI.out.below hJ.below (Nat.le_refl _)
              have HJ := Lib.hid hJ
              have hgw : gb < wr.heap.size := by omega
              have hown0 := World.ownsRow_lit (base := wr.heap.size) (e := 3) (size := 1) wr #[] 0 (Nat.le_refl _) (by simp [maxLen]) (by simp)
              clear hJ
              rcases HCS.out with ⟨rfl, rfl, rfl⟩ | ⟨q, rfl⟩
              · clear hsi1
                have hB1 : Below wr.heap.size wr (wr.alloc (.cells #[] 3)) := (Below.refl _ _).alloc (Nat.le_refl _) _
                have HB1 := Lib.hid hB1
                have HO1 := Lib.hid (hown0.alloc (.cells #[.int .i64 (l + (k : Int))] 3))
                have hsz1 := hB1.size
                have HC1 := Lib.hid (cell_one_new (wr.alloc (.cells #[] 3)) (.int .i64 (l + (k : Int))) 3)
                clear hown0 hB1
                go_wp2_with (at_builtin; (refine wpList_append_own_at _ rfl (.tmp 30) (.tmp 32) 34 rfl wr.heap.size 3 i0 (.int .i64 0) 1 8 Tryz.underlying34 hii hz0 hz1 hz2 rfl (by decide) _ 0 [] rfl HO1.out ⟨wr.heap.size + 1, 0, none⟩ 1 1 [.int .i64 (l + (k : Int))] rfl ?p1 ?p2 ?p3 ?p4 ?p5 ?p6 ?_))
                case p3 => simp [Value.oneCell']
                case p4 => unfold maxLen; omega
                case p6 => first | omega | (simp; omega)
                intro v2 w2 hown2 hgrow2 _ hat2
                have hB2 : Below wr.heap.size wr w2 := (HB1.out.alloc hsz1 _).grown hgrow2 (by simp; omega) (by exact own_base HO1.out)
                have hown2' : w2.ownsRow wr.heap.size 3 1 v2 1 ((([] : List Int) ++ [l + (k : Int)]).map (Value.int .i64)) := by simpa using hown2
                obtain ⟨a2, k2, rfl⟩ := own_slice hown2'
                have HZL := Lib.hid (show (([] : List Int) ++ [l + (k : Int)]).length = 1 by simp)
                have hJ2 := HJ.out.low hB2
                have hal : Below w2.heap.size w2 (w2.alloc (.cells #[.slice a2 1 k2] 34)) := (Below.refl _ _).alloc (Nat.le_refl _) _
                have hOL := (((ownL_of hown2').apart (o := u5.ownBlock) (fun b hb => HAP.out b hb)).wide hws).low hal
                have HR3 := Lib.hid (hJ2.low hal)
                have hs2 := hB2.size
                have HOL := Lib.hid hOL
                clear hown2 hown2' hgrow2 hat2 hJ2 hal hOL hB2
                go_wp2_with (at_builtin; (refine wpList_append_own_at _ rfl (.tmp 24) (.tmp 34) 27 rfl wo.heap.size 34 j0 (.slice none 0 0) 1 24 Tryz.underlying27 hj jz0 jz1 jz2 rfl (by decide) _ _ xs rfl HR3.out.out ⟨w2.heap.size, 0, none⟩ 1 1 [.slice a2 1 k2] rfl ?q1 ?q2 ?q3 ?q4 ?q5 ?q6 ?_))
                case q1 => rfl
                case q2 => exact cell_one_new _ _ _
                case q3 => simp [Value.oneCell']
                case q4 => unfold maxLen; have := HPK.out; simp only [List.length_append, List.length_take] at this ⊢; omega
                case q5 => have := HPK.out; simp only [List.length_append, List.length_take] at this ⊢; omega
                case q6 => simp; omega
                intro v3 w3 hown3 hgrow3 _ hat3
                have hP := HR3.out.push (c := k2) HOL.out (by rw [HZL.out, List.length_append, List.length_take]; exact hown3) hgrow3 (by simpa using hat3)
                rw [List.append_assoc, ← HTS.out] at hP
                have HP := Lib.hid hP
                clear hown3 hgrow3 hat3 hP
                go_wp2_with fail
                go_roundw
                case rel => exact ⟨k + 1, _, by omega, by go_num, HP.out⟩
                case measure => simp [intOf]; omega
              · have HCL := Lib.hid hsi1.cells
                clear hsi1
                go_wp2_with (at_builtin; (refine wpList_append_own _ rfl (.tmp 25) (.tmp 29) 34 rfl wr.heap.size 3 i0 (.int .i64 0) 1 8 Tryz.underlying34 hii hz0 hz1 hz2 rfl (by decide) _ 0 [] rfl hown0 q s.length c' (s.map (Value.int .i64)) rfl ?c1 ?c2 ?c3 ?c4 ?c5 ?c6 ?_))
                case c2 => exact fun j z hz => cell_alloc_keep (HCL.out j (.int .i64 z) (by simp [hz]))
                case c3 => simp [Value.oneCell']
                case c4 => simp [maxLen]; omega
                case c5 => omega
                intro v' W1 hown1 hgrow _
                have hB1 : Below wr.heap.size wr W1 := ((Below.refl _ _).alloc (Nat.le_refl _) _).grown hgrow (by simp) (by rintro k hk; simp [Value.ownBlock] at hk; omega)
                clear hown0 hgrow
                -- the state and its new number
                have HB1 := Lib.hid hB1
                have HO1 := Lib.hid (hown1.alloc (.cells #[.int .i64 (l + (k : Int))] 3))
                have hsz1 := hB1.size
                clear hown1 hB1
                go_wp2_with (at_builtin; (refine wpList_append_own_at _ rfl (.tmp 30) (.tmp 32) 34 rfl wr.heap.size 3 i0 (.int .i64 0) 1 8 Tryz.underlying34 hii hz0 hz1 hz2 rfl (by decide) _ s.length (s.map (Value.int .i64)) rfl HO1.out ⟨W1.heap.size, 0, none⟩ 1 1 [.int .i64 (l + (k : Int))] rfl ?e1 ?e2 ?e3 ?e4 ?e5 ?e6 ?_))
                case e1 => rfl
                case e2 => exact cell_one_new _ _ _
                case e3 => simp [Value.oneCell']
                case e4 => unfold maxLen; omega
                case e5 => omega
                case e6 => simp; omega
                intro v2 w2 hown2 hgrow2 _ hat2
                have hB2 : Below wr.heap.size wr w2 := (HB1.out.alloc hsz1 _).grown hgrow2 (by simp; omega) (by exact own_base HO1.out)
                have hown2' : w2.ownsRow wr.heap.size 3 1 v2 (s.length + 1) ((s ++ [l + (k : Int)]).map (Value.int .i64)) := by simpa using hown2
                obtain ⟨a2, k2, rfl⟩ := own_slice hown2'
                have HZL := Lib.hid (show (s ++ [l + (k : Int)]).length = (s.length + 1) by simp)
                have hJ2 := HJ.out.low hB2
                have hal : Below w2.heap.size w2 (w2.alloc (.cells #[.slice a2 (s.length + 1) k2] 34)) := (Below.refl _ _).alloc (Nat.le_refl _) _
                have hOL := (((ownL_of hown2').apart (o := u5.ownBlock) (fun b hb => HAP.out b hb)).wide hws).low hal
                have HR3 := Lib.hid (hJ2.low hal)
                have hs2 := hB2.size
                have HOL := Lib.hid hOL
                clear hown2 hown2' hgrow2 hat2 hJ2 hal hOL hB2
                go_wp2_with (at_builtin; (refine wpList_append_own_at _ rfl (.tmp 24) (.tmp 34) 27 rfl wo.heap.size 34 j0 (.slice none 0 0) 1 24 Tryz.underlying27 hj jz0 jz1 jz2 rfl (by decide) _ _ xs rfl HR3.out.out ⟨w2.heap.size, 0, none⟩ 1 1 [.slice a2 (s.length + 1) k2] rfl ?d1 ?d2 ?d3 ?d4 ?d5 ?d6 ?_))
                case d1 => rfl
                case d2 => exact cell_one_new _ _ _
                case d3 => simp [Value.oneCell']
                case d4 => unfold maxLen; have := HPK.out; simp only [List.length_append, List.length_take] at this ⊢; omega
                case d5 => have := HPK.out; simp only [List.length_append, List.length_take] at this ⊢; omega
                case d6 => simp; omega
                intro v3 w3 hown3 hgrow3 _ hat3
                have hP := HR3.out.push (c := k2) HOL.out (by rw [HZL.out, List.length_append, List.length_take]; exact hown3) hgrow3 (by simpa using hat3)
                rw [List.append_assoc, ← HTS.out] at hP
                have HP := Lib.hid hP
                clear hown3 hgrow3 hat3 hP
                go_wp2_with fail
                go_roundw
                case rel => exact ⟨k + 1, _, by omega, by go_num, HP.out⟩
                case measure => simp [intOf]; omega
            · obtain rfl : k = (12 - l + 1).toNat := by omega
              rw [List.take_of_length_le (by rw [exP_length]; exact Nat.le_refl _), ← HTK.out] at hJ
              have HJ := Lib.hid hJ
              clear hJ
              go_wp2_with fail
              go_roundw
              case rel => exact ⟨i + 1, _, by omega, by go_num, HJ.out⟩
              case measure => simp [intOf]; omega
        · obtain rfl : i = fs.length := by omega
          rw [List.take_of_length_le (Nat.le_refl _), ← HS1.out] at hJ
          obtain ⟨a2, k2, rfl⟩ := own_slice hJ.out
          have HJ := Lib.hid hJ
          clear hJ
          go_wp2_with fail
          go_roundw
          case rel => exact ⟨r + 1, a2, k2, by omega, by go_num, by rw [HF1.out], .inr ⟨by omega, by rw [HF1.out]; exact HJ.out.at_.1⟩, HI.out.trans (HJ.out.below.mono HI.out.size)⟩
          case measure => simp [intOf]; omega
    · obtain rfl : r = n := by omega
      have HI := Lib.hid hI
      have HR := Lib.hid hR.all
      clear hI hR
      go_wp2_with fail
      go_ret
      exact ⟨aa, cc, rfl, HR.out, HI.out⟩

end Go.Proofs.YtigaklppdlknkaaGreat

/- lined of the document's side: contract. -/
set_option linter.unusedVariables false
set_option linter.unusedSimpArgs false
namespace Go.Proofs.YtigaklppdlknkaaGreat
open Go.RowKit Tinker

set_option maxRecDepth 100000 in
set_option maxHeartbeats 2000000 in
theorem rLined_any (a b : Option Addr) (ca cb : Nat) (ps : List L) (ls : List Int) (w : World) (hp : LinesAt w a ps) (hl : IntsAt w b ls) (hm : ls.length ≤ 1000) (hm2 : ps.length ≤ 1000) :
    Calls Tryz.prog 69 #[.slice a ps.length ca, .slice b ls.length cb] w fun e w' => e = .returned (.int .i64 (lnC ps ls)) ∧ Below w.heap.size w w' := by
  have H1 := Lib.hid (rIsSet_any b cb ls w hl (by omega))
  cases h1 : isSetB ls
  · rw [lnC_1 h1]
    rw [h1] at H1
    clear hp hl h1
    go_enter Tryz.func69, Tryz.ntmps69
    go_wp2_with fail
    refine H1.out.mono ?_
    rintro e w1 ⟨rfl, hB⟩
    go_wp2_with fail
    go_ret
    exact ⟨rfl, hB⟩
  · have HH1 := Lib.hid h1
    rw [h1] at H1
    clear h1
    go_enter Tryz.func69, Tryz.ntmps69
    go_wp2_with fail
    refine H1.out.mono ?_
    rintro e w1 ⟨rfl, hB⟩
    have HB := Lib.hid hB
    clear hB H1
    go_wp2_with fail
    go_loopw [5] (fun s5 wr => ∃ k : Nat, k ≤ ls.length ∧ s5 = .int .i64 k ∧ (ls.take k).all (btw · 0 ((ps.length : Int) - 1)) = true ∧ Below w.heap.size w wr) (fun s5 _ => ls.length - (intOf s5).toNat)
    case atStart => exact ⟨0, Nat.zero_le _, rfl, by simp, HB.out⟩
    case round =>
      obtain ⟨k, hk, rfl, hall, hBr⟩ := hrel
      have HA := Lib.hid hall
      have HBR := Lib.hid hBr
      clear hall hBr
      by_cases hlt : k < ls.length
      · obtain ⟨b1, off, x, rfl, hlb, hx, h0⟩ := (hl.below HBR.out (Nat.le_refl _)).at_ hlt
        have HX := Lib.hid hx
        have HW := Lib.hid (within3b_any x 0 ((ps.length : Int) - 1) wr)
        clear hx hl hp
        cases hv : btw x 0 ((ps.length : Int) - 1)
        · have HV := Lib.hid hv
          rw [hv] at HW
          clear hv
          go_wp2_with fail
          refine HW.out.mono ?_
          rintro e w2 ⟨rfl, rfl⟩
          go_wp2_with fail
          go_ret
          exact ⟨ret_int (lnC_4 HH1.out (by unfold allBtw; exact all_not HX.out HV.out)).symm, HBR.out⟩
        · have HV := Lib.hid hv
          rw [hv] at HW
          clear hv
          go_wp2_with fail
          refine HW.out.mono ?_
          rintro e w2 ⟨rfl, rfl⟩
          go_wp2_with fail
          go_roundw
          case rel => exact ⟨k + 1, by omega, by go_num, all_snoc HA.out HX.out HV.out, HBR.out⟩
          case measure => simp [intOf]; omega
      · have HH2 := Lib.hid (show allBtw ls 0 ((ps.length : Int) - 1) = true by unfold allBtw; exact all_whole HA.out hlt)
        obtain rfl : k = ls.length := by omega
        clear HA
        by_cases h3 : 2 < ls.length
        · have HC := Lib.hid (lnC_3 HH1.out HH2.out h3)
          clear hp hl
          go_wp2_with fail
          go_ret
          exact ⟨ret_int HC.out.symm, HBR.out⟩
        · have h3' : ls.length ≤ 2 := by omega
          go_wp2_with fail
          go_loopw [6] (fun s6 wx => ∃ k : Nat, k ≤ ls.length ∧ s6 = .int .i64 k ∧ (ls.take k).all (fun n => wrB (ps.getD n.toNat ⟨0, 0, 0, 0⟩)) = true ∧ Below w.heap.size w wx) (fun s6 _ => ls.length - (intOf s6).toNat)
          case atStart => exact ⟨0, Nat.zero_le _, rfl, by simp, HBR.out⟩
          case round =>
            clear HBR
            obtain ⟨k, hk, rfl, hall, hBr⟩ := hrel
            have HA := Lib.hid hall
            have HBR := Lib.hid hBr
            clear hall hBr
            by_cases hlt : k < ls.length
            · obtain ⟨b1, off, x, rfl, hlb, hx, h0⟩ := (hl.below HBR.out (Nat.le_refl _)).at_ hlt
              have HX := Lib.hid hx
              obtain ⟨q1, q2⟩ := allBtw_at HH2.out (mem_of_get hx)
              obtain ⟨n, rfl⟩ : ∃ n : Nat, x = n := ⟨x.toNat, by omega⟩
              obtain ⟨b2, off2, l, rfl, hlb2, hl2, c0, c1, c2, c3⟩ := (hp.below HBR.out (Nat.le_refl _)).at_ (show n < ps.length by omega)
              have HW := Lib.hid (fun w => rWrites_A l w)
              have HE := Lib.hid (show wrB (ps.getD (n : Int).toNat ⟨0, 0, 0, 0⟩) = wrB l by rw [show (n : Int).toNat = n by omega, getD_of_get hl2])
              have hnn : n < ps.length := by omega
              unfold lv at HW
              clear hx hl hp hl2
              cases hv : wrB l
              · have HV := Lib.hid (HE.out.trans hv)
                rw [hv] at HW
                clear hv
                go_wp2_with fail
                refine (HW.out _).mono ?_
                rintro e w2 ⟨rfl, hB2⟩
                go_wp2_with fail
                go_ret
                exact ⟨ret_int (lnC_6 HH1.out HH2.out h3' (by unfold awB; exact all_not HX.out HV.out)).symm, HBR.out.trans (hB2.mono HBR.out.size)⟩
              · have HV := Lib.hid (HE.out.trans hv)
                rw [hv] at HW
                clear hv
                go_wp2_with fail
                refine (HW.out _).mono ?_
                rintro e w2 ⟨rfl, hB2⟩
                go_wp2_with fail
                go_roundw
                case rel => exact ⟨k + 1, by omega, by go_num, all_snoc HA.out HX.out HV.out, HBR.out.trans (hB2.mono HBR.out.size)⟩
                case measure => simp [intOf]; omega
            · have HZ := Lib.hid (all_whole HA.out hlt)
              clear HA hp hl
              go_wp2_with fail
              go_ret
              exact ⟨ret_int (lnC_0 HH1.out HH2.out h3' (by unfold awB; exact HZ.out)).symm, HBR.out⟩

end Go.Proofs.YtigaklppdlknkaaGreat

/- CanPass of blame; lined of the document's side: contracts. -/
set_option linter.unusedVariables false
set_option linter.unusedSimpArgs false
namespace Go.Proofs.YtigaklppdlknkaaGreat
open Go.RowKit Tinker

/-- What CanPass answers. -/
def cnC (ps : List L) (t : T) (ls : List Int) : Int := if vpt ps [t] = 0 then lnC ps ls else vpt ps [t]
def cnO (ps : List L) (t : T) (ls : List Int) : Option (List Int) := if cnC ps t ls = 0 then pickO ps t ls else none
def GivesOE (o : Option (List Int)) (c : Int) (w : World) (e : Ending) (w' : World) : Prop :=
  ∃ a k, e = .returned (.tuple #[.slice a (o.getD []).length k, .bool o.isSome, .int .i64 c]) ∧ IntsAt w' a (o.getD []) ∧ Below w.heap.size w w'

set_option maxRecDepth 100000 in
set_option maxHeartbeats 2000000 in
theorem CanPass_any (a b c : Option Addr) (ca cb cc : Nat) (ps : List L) (t : T) (ls : List Int) (w : World) (hp : LinesAt w a ps) (hs : IntsAt w b t.inn) (hl : IntsAt w c ls) (hm0 : t.inn.length ≤ 1000) (hm : ls.length ≤ 1000) (hmp : ps.length ≤ 1000) :
    Calls Tryz.prog 45 #[.slice a ps.length ca, .agg #[.slice b t.inn.length cb, .int .i64 t.out, .int .i64 t.want], .slice c ls.length cc] w (GivesOE (cnO ps t ls) (cnC ps t ls) w) := by
  have HI := Lib.hid (boxT_new (a := b) (n := t.inn.length) (ca := cb) (out := t.out) (want := t.want) w)
  have x0 := HI.out.c0
  have x1 := HI.out.c1
  have x2 := HI.out.c2
  have HV := Lib.hid (fun g w hp hts => validateTestsB_any a g ca 1 ps [t] w hp hts (by simp) (by simpa using hm0))
  have HLN := Lib.hid (fun w hp hl => validateLines_any a c ca cc ps ls w hp hl hm hmp)
  have HP := Lib.hid hp
  have HL := Lib.hid hl
  have HS0 := Lib.hid hs
  have HS := Lib.hid (hs.below HI.out.below (Nat.le_refl _))
  by_cases hz : vpt ps [t] = 0
  · have hT := (vts_ok (vpt_ok hz).2).2 t (by simp)
    have e1 : cnC ps t ls = lnC ps ls := by unfold cnC; rw [if_pos hz]
    by_cases hln : lnC ps ls = 0
    · have h2 := (lnC_ok hln).2.2.1
      have HPK := Lib.hid (fun w hp hi hl => pick_any a b c ca cb cc ps t ls w hp hi hl hT (by omega))
      have e2 : cnO ps t ls = pickO ps t ls := by unfold cnO; rw [e1, if_pos hln]
      rw [e2, e1, hln]
      rw [hz] at HV
      rw [hln] at HLN
      generalize pickO ps t ls = O at HPK ⊢
      clear hz hT e1 e2 hln h2 hp hs hl hm0 hm hmp
      go_enter Tryz.func45, Tryz.ntmps45
      go_wp2_with fail
      refine (HV.out _ _ ?_ ?_).mono ?_
      · exact HP.out.below (HI.out.below.alloc HI.out.below.size _) (Nat.le_refl _)
      · exact tests_one (by simp) HS.out
      rintro e w1 ⟨rfl, hB⟩
      have HI1 := Lib.hid ((HI.out.low ((Below.refl _ _).alloc (Nat.le_refl _) _)).low hB)
      clear hB x0 x1 x2 HI
      have x0 := HI1.out.c0
      have x1 := HI1.out.c1
      have x2 := HI1.out.c2
      go_wp2_with fail
      refine (HLN.out _ (HP.out.below HI1.out.below (Nat.le_refl _)) (HL.out.below HI1.out.below (Nat.le_refl _))).mono ?_
      rintro e w2 ⟨rfl, hB⟩
      have HI2 := Lib.hid (HI1.out.low hB)
      clear hB x0 x1 x2 HI1
      have x0 := HI2.out.c0
      have x1 := HI2.out.c1
      have x2 := HI2.out.c2
      go_wp2_with fail
      refine (HPK.out _ (HP.out.below HI2.out.below (Nat.le_refl _)) (HS0.out.below HI2.out.below (Nat.le_refl _)) (HL.out.below HI2.out.below (Nat.le_refl _))).mono ?_
      rintro e w3 ⟨a3, c3, rfl, h3, hB⟩
      have HB3 := Lib.hid (HI2.out.low hB).below
      have H3 := Lib.hid h3
      clear hB h3 x0 x1 x2 HI2
      go_wp2_with fail
      go_ret3
      exact ⟨a3, c3, rfl, H3.out, HB3.out⟩
    · have e2 : cnO ps t ls = none := by unfold cnO; rw [e1, if_neg hln]
      rw [e2, e1]
      rw [hz] at HV
      generalize lnC ps ls = co at HLN hln ⊢
      have hz1 : (co != 0) = true := by simpa using hln
      have hz2 : (co == 0) = false := by simpa using hln
      clear hz hT e1 e2 hln hp hs hl hm0 hm hmp
      go_enter Tryz.func45, Tryz.ntmps45
      go_wp2_with fail
      refine (HV.out _ _ ?_ ?_).mono ?_
      · exact HP.out.below (HI.out.below.alloc HI.out.below.size _) (Nat.le_refl _)
      · exact tests_one (by simp) HS.out
      rintro e w1 ⟨rfl, hB⟩
      have HI1 := Lib.hid ((HI.out.low ((Below.refl _ _).alloc (Nat.le_refl _) _)).low hB)
      clear hB x0 x1 x2 HI
      go_wp2_with fail
      refine (HLN.out _ (HP.out.below HI1.out.below (Nat.le_refl _)) (HL.out.below HI1.out.below (Nat.le_refl _))).mono ?_
      rintro e w2 ⟨rfl, hB⟩
      go_wp2_with fail
      go_ret3
      exact ⟨none, 0, rfl, .inl rfl, (HI1.out.low hB).below⟩
  · have e1 : cnC ps t ls = vpt ps [t] := by unfold cnC; rw [if_neg hz]
    have e2 : cnO ps t ls = none := by unfold cnO; rw [e1, if_neg hz]
    rw [e2, e1]
    generalize vpt ps [t] = co at HV hz ⊢
    have hz1 : (co != 0) = true := by simpa using hz
    have hz2 : (co == 0) = false := by simpa using hz
    clear hz e1 e2 hp hs hl hm0 hm hmp
    go_enter Tryz.func45, Tryz.ntmps45
    go_wp2_with fail
    refine (HV.out _ _ ?_ ?_).mono ?_
    · exact HP.out.below (HI.out.below.alloc HI.out.below.size _) (Nat.le_refl _)
    · exact tests_one (by simp) HS.out
    rintro e w1 ⟨rfl, hB⟩
    go_wp2_with fail
    go_ret3
    exact ⟨none, 0, rfl, .inl rfl, ((HI.out.low ((Below.refl _ _).alloc (Nat.le_refl _) _)).low hB).below⟩

end Go.Proofs.YtigaklppdlknkaaGreat

/- canPass of the document's side: contract. -/
set_option linter.unusedVariables false
set_option linter.unusedSimpArgs false
namespace Go.Proofs.YtigaklppdlknkaaGreat
open Go.RowKit Tinker

theorem find_next {P : List Int → Bool} {fs : List (List Int)} {k : Nat} {vs : List Int} (h : (fs.take k).find? P = none) (hv : fs[k]? = some vs) (hp : P vs = false) : (fs.take (k + 1)).find? P = none := by
  rw [List.take_add_one, hv, List.find?_append, h]; simp [hp]
theorem find_here {P : List Int → Bool} {fs : List (List Int)} {k : Nat} {vs : List Int} (h : (fs.take k).find? P = none) (hv : fs[k]? = some vs) (hp : P vs = true) : fs.find? P = some vs := by
  have hlt := (List.getElem?_eq_some_iff.1 hv).1
  have e : fs = fs.take k ++ (vs :: fs.drop (k + 1)) := by
    have h2 : fs.drop k = vs :: fs.drop (k + 1) := by rw [List.drop_eq_getElem_cons hlt]; congr 1; exact (List.getElem?_eq_some_iff.1 hv).2
    rw [← h2, List.take_append_drop]
  rw [e, List.find?_append, h]
  simp [hp]

set_option maxRecDepth 100000 in
set_option maxHeartbeats 4000000 in
theorem rcanPass_any (a b c g : Option Addr) (ca cb cc cg : Nat) (ps : List L) (t : T) (ls : List Int) (fs : List (List Int)) (w : World) (hp : LinesAt w a ps) (hs : IntsAt w b t.inn) (hl : IntsAt w c ls) (hf : RowsAt w g fs) (hT : isT t = true) (hC : ∀ vs ∈ fs, fC ps t.inn ls vs = 0) (hm : ls.length ≤ 1000) (hfl : fs.length ≤ 700) (hm2 : ∀ vs ∈ fs, vs.length ≤ 1000) :
    Calls Tryz.prog 128 #[.slice a ps.length ca, .agg #[.slice b t.inn.length cb, .int .i64 t.out, .int .i64 t.want], .slice c ls.length cc, .slice g fs.length cg] w (GivesO (fs.find? (pasF ps t ls)) w) := by
  have HI := Lib.hid (boxT_new (a := b) (n := t.inn.length) (ca := cb) (out := t.out) (want := t.want) w)
  have hr := btw_true.1 (show btw t.out 0 3 = true from (isT_ok hT).2.1)
  have HFC := Lib.hid (fun d cd vs (hv : vs ∈ fs) w hp hs hl hv => rForce_any a b c d ca cb cc cd ps t.inn ls vs w hp hs hl hv hm (by have := hm2 vs ‹_›; omega))
  have HCC := Lib.hid hC
  have HAL := Lib.hid (fun vs h => (fA_ok (p := ps) (s := t.inn) (ls := ls) (vs := vs) h).1)
  have HPF := Lib.hid (fun vs => show pasF ps t ls vs = ((fC ps t.inn ls vs == 0) && ((fA ps t.inn ls vs).getD t.out.toNat 0 == t.want)) from rfl)
  have HP := Lib.hid hp
  have HS := Lib.hid hs
  have HL := Lib.hid hl
  have HF := Lib.hid hf
  obtain ⟨inn, out, want⟩ := t
  simp only at *
  obtain ⟨o, rfl⟩ : ∃ o : Nat, out = o := ⟨out.toNat, by omega⟩
  have HN := Lib.hid (show ((o : Int)).toNat = o by omega)
  generalize hP : pasF ps ⟨inn, o, want⟩ ls = P at HPF ⊢
  clear hp hs hl hf hT hC hm2 hP
  go_enter Tryz.func128, Tryz.ntmps128
  go_wp2_with fail
  go_loopw [10] (fun s10 wr => ∃ k : Nat, k ≤ fs.length ∧ s10 = .int .i64 k ∧ (fs.take k).find? P = none ∧ BoxT w.heap.size b inn.length cb o want w wr) (fun s10 _ => fs.length - (intOf s10).toNat)
  case atStart => exact ⟨0, Nat.zero_le _, rfl, rfl, HI.out⟩
  case round =>
    clear HI
    obtain ⟨k, hk, rfl, hno, hI⟩ := hrel
    have HNO := Lib.hid hno
    have HI := Lib.hid hI
    clear hno
    by_cases hlt : k < fs.length
    · obtain ⟨gb, go, vs, a', c', rfl, hgb, hvs, y0, hvi⟩ := (HF.out.below hI.below (Nat.le_refl _)).at_ hlt
      have HVG := Lib.hid hvs
      have hmem := mem_of_get hvs
      have H1 := Lib.hid (HFC.out a' c' vs hmem)
      have hc0 := HCC.out vs hmem
      have hXl := HAL.out vs hc0
      have HQ := Lib.hid (HPF.out vs)
      rw [hc0] at H1 HQ
      generalize fA ps inn ls vs = X at H1 hXl HQ
      have ho3 : o < X.length := by omega
      clear hXl
      have hlx := hp_lt hI.bl
      have x0 := hI.c0
      have HVI := Lib.hid hvi
      clear hI hvs hmem hc0 hvi HFC HCC HAL HPF
      go_upto_region 4 with fail
      go_cut [11] (fun s11 wc => ∃ a1 c1, s11 = .slice a1 X.length c1 ∧ IntsAt wc a1 X ∧ BoxT w.heap.size b inn.length cb o want w wc)
      case first =>
        go_region_held3 (fun w' => w'.cell? ⟨w.heap.size, 0, none⟩ = some (.slice b inn.length cb) ∧ w'.cell? ⟨gb, go + k, none⟩ = some (.slice a' vs.length c')) (first | exact ⟨x0, y0⟩ | exact ⟨(hBa.cell (p := ⟨w.heap.size, _, none⟩) hlx).trans x0, (hBa.cell (p := ⟨gb, _, none⟩) hgb).trans y0⟩ | go_keep) ((go_at_call 174; refine (H1.out _ ?_ ?_ ?_ ?_).mono ?_; exact (HP.out.below HI.out.drew.below (Nat.le_refl _)); exact (HS.out.below HI.out.drew.below (Nat.le_refl _)); exact (HL.out.below HI.out.drew.below (Nat.le_refl _)); exact (HVI.out.below (Below.refl _ _).drew (Nat.le_refl _)); rintro e wa ⟨a1, c1, rfl, h1, hBa⟩))
        all_goals go_wp2_with fail
        all_goals go_meet
        all_goals exact ⟨_, _, rfl, h1, HI.out.drew.low hBa⟩
      case rest =>
        obtain ⟨a1, c1, rfl, h1, hI⟩ := hcut
        have HI := Lib.hid hI
        obtain ⟨xb, xo, xv, rfl, hxb, hxv, z0⟩ := h1.at_ ho3
        have x1 := hI.c1
        have x2 := hI.c2
        have HQ2 := Lib.hid (show P vs = (xv == want) by rw [HQ.out, HN.out, getD_of_get hxv]; rfl)
        have y1 := (HF.out.below hI.below (Nat.le_refl _)).at_ hlt
        obtain ⟨gb', go', vs', a'', c'', e1, hgb', hvs', y1, hvi'⟩ := y1
        injection e1 with e1
        injection e1 with e2 e3
        subst e2 e3
        have e4 : vs = vs' := by rw [HVG.out] at hvs'; injection hvs'
        subst e4
        have HVI2 := Lib.hid hvi'
        clear hI h1 hxv x0 y0 hvs' hvi' HVI H1 HQ
        cases hq : (xv == want)
        · have HQ3 := Lib.hid (HQ2.out.trans hq)
          go_wp2_with fail
          go_quiet (fail)
          go_wp2_with fail
          go_roundw
          case rel => exact ⟨k + 1, by omega, by go_num, find_next HNO.out HVG.out HQ3.out, HI.out.low ⟨rfl, rfl, rfl, Nat.le_refl _, fun _ _ => rfl⟩⟩
          case measure => simp [intOf]; omega
        · have HQ3 := Lib.hid (find_here HNO.out HVG.out (HQ2.out.trans hq))
          go_wp2_with fail
          go_quiet (fail)
          go_wp2_with fail
          go_ret2
          rw [HQ3.out]
          exact ⟨_, _, rfl, HVI2.out, HI.out.below.trans (Below.mono ⟨rfl, rfl, rfl, Nat.le_refl _, fun _ _ => rfl⟩ HI.out.below.size)⟩
    · obtain rfl : k = fs.length := by omega
      have HNN := Lib.hid (show fs.find? P = none by have := HNO.out; rwa [List.take_length] at this)
      have HB := Lib.hid hI.below
      clear hI
      go_wp2_with fail
      go_ret2
      rw [HNN.out]
      exact ⟨none, 0, rfl, .inl rfl, HB.out⟩

end Go.Proofs.YtigaklppdlknkaaGreat

/- CanPass of the document's side: contract. -/
set_option linter.unusedVariables false
set_option linter.unusedSimpArgs false
namespace Go.Proofs.YtigaklppdlknkaaGreat
open Go.RowKit Tinker

theorem vals_rng : valsTo 25 = rng (-12) 12 := by decide
theorem compl_succ : ∀ (k : Nat) (pre : List Int), compl (k + 1) pre = (compl k pre).flatMap (Tinker.exP (-12) 12)
  | 0, pre => by
    show (valsTo 25).flatMap (fun v => [pre ++ [v]]) = [pre].flatMap (Tinker.exP (-12) 12)
    rw [vals_rng]
    unfold Tinker.exP
    rw [List.flatMap_cons, List.flatMap_nil, List.append_nil]
    exact (List.map_eq_flatMap).symm
  | k + 1, pre => by
    show (valsTo 25).flatMap (fun v => compl (k + 1) (pre ++ [v])) = ((valsTo 25).flatMap fun v => compl k (pre ++ [v])).flatMap (Tinker.exP (-12) 12)
    rw [List.flatMap_assoc]
    exact congrArg (fun F => (valsTo 25).flatMap F) (funext fun v => compl_succ k (pre ++ [v]))
theorem compl_pk : ∀ n, compl n [] = pkL (-12) n
  | 0 => rfl
  | n + 1 => by rw [compl_succ, compl_pk n]; rfl
theorem pkL_btw : ∀ {k : Nat} {s : List Int}, s ∈ pkL (-12) k → ∀ v ∈ s, -12 ≤ v ∧ v ≤ 12
  | 0, s, h, v, hv => by simp [pkL] at h; subst h; simp at hv
  | k + 1, s, h, v, hv => by
    obtain ⟨y, hy, hs⟩ := List.mem_flatMap.1 h
    unfold Tinker.exP at hs
    obtain ⟨n, hn, rfl⟩ := List.mem_map.1 hs
    rcases List.mem_append.1 hv with h1 | h1
    · exact pkL_btw hy v h1
    · obtain rfl : v = n := by simpa using h1
      exact rng_mem hn
theorem pk_fC {ps : List L} {t : T} {ls vs : List Int} (hz : vpt ps [t] = 0) (hln : lnC ps ls = 0) (hv : vs ∈ pkL (-12) ls.length) : fC ps t.inn ls vs = 0 := by
  obtain ⟨h1, h2, h3, h4⟩ := lnC_ok hln
  have hT := (vts_ok (vpt_ok hz).2).2 t (by simp)
  have hr : vr ps t.inn = 0 := by unfold vr fe; rw [if_pos (vpt_ok hz).1]; exact (isT_ok hT).1
  rw [fC_vr hr]
  refine fcC_0 h1 h2 (pkL_in hv).symm (List.all_eq_true.2 fun v hvv => btw_true.2 (by have := pkL_btw hv v hvv; omega)) (List.all_eq_true.2 fun n hn => ?_)
  have := List.all_eq_true.1 h4 n hn
  unfold wrB at this
  exact (Bool.and_eq_true _ _ ▸ this).2

end Go.Proofs.YtigaklppdlknkaaGreat
