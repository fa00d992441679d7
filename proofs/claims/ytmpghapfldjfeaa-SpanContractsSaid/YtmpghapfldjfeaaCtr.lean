/- SpanContracts: the walk. -/
import Derived.Test.YtmpghapfldjfeaaSpM
import Derived.Test.YtmpghapfldjfeaaSrG
import Derived.Test.YtmpghapfldjfeaaConB
set_option linter.unusedVariables false
set_option linter.unusedSimpArgs false
namespace Go.Proofs.Ytmpghapfldjfeaa
open Go.RowKit Tinker

/-- How many of the first registers have more than one number. -/
def opI (b : List Rg) : Nat → Int
  | 0 => 0
  | k + 1 => opI b k + (if (b.getD k rg0).lo < (b.getD k rg0).hi then 1 else 0)
theorem opI_bd (b : List Rg) : ∀ k, 0 ≤ opI b k ∧ opI b k ≤ k
  | 0 => by simp [opI]
  | k + 1 => by have := opI_bd b k; rw [opI]; split <;> (push_cast; omega)
theorem open_one {lo hi : List Int} (h4 : lo.length = 4) (k4 : hi.length = 4) (hle : leTo lo hi 4 = true) (h : opI (conB lo hi) 4 = 1) : prd lo hi 4 = szB (conB lo hi) + 1 := by
  have e0 := leTo_le hle (show 0 < 4 by omega)
  have e1 := leTo_le hle (show 1 < 4 by omega)
  have e2 := leTo_le hle (show 2 < 4 by omega)
  have e3 := leTo_le hle (show 3 < 4 by omega)
  obtain ⟨a0, a1, a2, a3, rfl⟩ := int_list4 h4
  obtain ⟨b0, b1, b2, b3, rfl⟩ := int_list4 k4
  simp only [List.getD_cons_zero, List.getD_cons_succ] at e0 e1 e2 e3
  simp only [opI, conB, List.zipWith_cons_cons, List.getD_cons_zero, List.getD_cons_succ] at h
  simp only [prd, szB, szTo, conB, List.zipWith_cons_cons, List.getD_cons_zero, List.getD_cons_succ]
  have key : ∀ a b : Int, a ≤ b → (a < b) ∨ b - a + 1 = 1 := fun a b h => by omega
  by_cases f0 : a0 < b0
  · rw [if_pos f0] at h
    have g1 : ¬ a1 < b1 := fun q => by rw [if_pos q] at h; (repeat' split at h) <;> omega
    have g2 : ¬ a2 < b2 := fun q => by rw [if_pos q] at h; (repeat' split at h) <;> omega
    have g3 : ¬ a3 < b3 := fun q => by rw [if_pos q] at h; (repeat' split at h) <;> omega
    rw [show b1 - a1 + 1 = 1 by omega, show b2 - a2 + 1 = 1 by omega, show b3 - a3 + 1 = 1 by omega]
    omega
  · rw [if_neg f0] at h
    rw [show b0 - a0 + 1 = 1 by omega]
    by_cases f1 : a1 < b1
    · rw [if_pos f1] at h
      have g2 : ¬ a2 < b2 := fun q => by rw [if_pos q] at h; (repeat' split at h) <;> omega
      have g3 : ¬ a3 < b3 := fun q => by rw [if_pos q] at h; (repeat' split at h) <;> omega
      rw [show b2 - a2 + 1 = 1 by omega, show b3 - a3 + 1 = 1 by omega]
      omega
    · rw [if_neg f1] at h
      rw [show b1 - a1 + 1 = 1 by omega]
      by_cases f2 : a2 < b2
      · rw [if_pos f2] at h
        have g3 : ¬ a3 < b3 := fun q => by rw [if_pos q] at h; omega
        rw [show b3 - a3 + 1 = 1 by omega]
        omega
      · rw [if_neg f2] at h
        rw [show b2 - a2 + 1 = 1 by omega]
        omega
theorem okB_con {lo hi : List Int} (h1 : vs lo = 0) (h2 : vs hi = 0) (h3 : leTo lo hi 4 = true) : OkB (conB lo hi) := by
  have h4 := (vs_ok h1).1
  have k4 := (vs_ok h2).1
  rw [okB_iff (conB_len h4 k4)]
  intro k hk
  obtain ⟨x, hx⟩ := get_of_lt (show k < lo.length by omega)
  obtain ⟨y, hy⟩ := get_of_lt (show k < hi.length by omega)
  have g1 := getD_vs h1 hk
  have g2 := getD_vs h2 hk
  have g3 := leTo_le h3 hk
  rw [getD_of_get hx] at g1 g3
  rw [getD_of_get hy] at g2 g3
  rw [getD_of_get (show (conB lo hi)[k]? = some ⟨x, y⟩ by unfold conB; rw [List.getElem?_zipWith, hx, hy]), okG_iff]
  exact ⟨g1, g2, g3⟩

set_option maxRecDepth 100000 in
set_option maxHeartbeats 8000000 in
theorem spanContracts_walk (a : Option Addr) (ca : Nat) (lo : List Int) (b : Option Addr) (cb : Nat) (hi : List Int) (out mn mx : Int) (w : World) (hl : IntsAt w a lo) (hc : a = none → ca = 0) (hh : IntsAt w b hi) (hd : b = none → cb = 0) :
    Calls Try.prog 7 #[.agg #[.slice a lo.length ca, .slice b hi.length cb, .int .i64 out, .int .i64 mn, .int .i64 mx]] w fun e w' => e = .returned (.bool true) ∧ Below w.heap.size w w' := by
  clear hc hd
  have HW := Lib.hid (fun w => wide_any a b ca cb lo.length hi.length out mn mx w)
  have HI := Lib.hid (boxC_new (a := a) (b := b) (n := lo.length) (m := hi.length) (ca := ca) (cb := cb) (out := out) (mn := mn) (mx := mx) w)
  have x0 := HI.out.c0
  have x1 := HI.out.c1
  have x2 := HI.out.c2
  have x3 := HI.out.c3
  have x4 := HI.out.c4
  by_cases hbig : 100 < lo.length ∨ 100 < hi.length
  · rw [show decide (100 < lo.length ∨ 100 < hi.length) = true by simpa using hbig] at HW
    clear hbig hl hh
    go_enter Try.func7, Try.ntmps7
    go_wp2_with fail
    refine (HW.out _ ).mono ?_
    rintro e w1 ⟨rfl, hB⟩
    have HI := Lib.hid (HI.out.low hB)
    clear hB x0 x1 x2 x3 x4
    have x0 := HI.out.c0
    have x1 := HI.out.c1
    have x2 := HI.out.c2
    have x3 := HI.out.c3
    have x4 := HI.out.c4
    go_wp2_with fail
    refine (known6_true _ ).mono ?_
    rintro e w2 ⟨rfl, hB⟩
    have HI := Lib.hid (HI.out.low hB)
    clear hB x0 x1 x2 x3 x4
    have x0 := HI.out.c0
    have x1 := HI.out.c1
    have x2 := HI.out.c2
    have x3 := HI.out.c3
    have x4 := HI.out.c4
    go_wp2_with fail
    go_ret
    exact ⟨rfl, HI.out.below⟩
  · have m1 : lo.length ≤ 1000 := by omega
    have m2 : hi.length ≤ 1000 := by omega
    rw [show decide (100 < lo.length ∨ 100 < hi.length) = false by simpa using hbig] at HW
    have HS := Lib.hid hl
    have HT := Lib.hid hh
    have C1 := Lib.hid (fun w h1 h2 => sOf_any a b ca cb lo hi out mn mx w h1 h2 m1 m2)
    have C2 := Lib.hid (fun w h1 h2 => rOf6_any a b ca cb lo hi out mn mx w h1 h2)
    have C3 := Lib.hid (fun x k w h => sSize_any x k (ofA lo hi out mn mx) w h)
    have C4 := Lib.hid (fun w h1 h2 => box_C a b ca cb lo hi out mn mx w h1 h2 m1 m2)
    unfold GivesRgE at C1 C2
    have HOB := Lib.hid (opI_bd (ofA lo hi out mn mx))
    have hml : (ofA lo hi out mn mx).length ≤ 4 := by
      unfold ofA
      split
      · unfold conB; rename_i hv; rw [List.length_zipWith, (vs_ok (isCon_ok (vcon_ok hv).1).1).1]; omega
      · simp
    have HML := Lib.hid hml
    clear hml
    by_cases hz : vcon lo hi out mn mx = 0 ∧ opI (ofA lo hi out mn mx) (ofA lo hi out mn mx).length = 1
    · obtain ⟨z1, z2⟩ := hz
      obtain ⟨q1, q2, q3, _⟩ := isCon_ok (vcon_ok z1).1
      have ok := okB_con q1 q2 q3
      have eM : ofA lo hi out mn mx = conB lo hi := by unfold ofA; rw [if_pos z1]
      have hsz := szTo_bd ok 4 (by omega)
      have hbx : boxN lo hi out mn mx = szB (conB lo hi) + 1 := by
        unfold boxN; rw [if_pos z1]
        exact open_one (vs_ok q1).1 (vs_ok q2).1 q3 (by rw [eM, ok.l4] at z2; exact z2)
      have esz : sizeA (ofA lo hi out mn mx) = szB (conB lo hi) := by rw [eM]; unfold sizeA; rw [if_pos (vb_ok' ok)]
      have evb : vb (ofA lo hi out mn mx) = 0 := by rw [eM]; exact vb_ok' ok
      have hsz : 0 ≤ szB (conB lo hi) ∧ szB (conB lo hi) ≤ 8000 := by unfold szB; omega
      rw [esz, evb] at C3
      rw [hbx, z1] at C4
      rw [z1] at C1 C2
      have HO := Lib.hid z2
      generalize ofA lo hi out mn mx = M at *
      generalize szB (conB lo hi) = S at *
      have hself : (S + 1 == S + 1) = true := by simp
      have hwr : IntKind.i64.wrap (S + 1) = S + 1 := by rw [IntWalk.i64_in _ (by omega)]
      clear z1 z2 q1 q2 q3 ok eM hbx esz evb hl hh hbig m1 m2
      go_enter Try.func7, Try.ntmps7
      go_wp2_with fail
      refine (HW.out _ ).mono ?_
      rintro e w1 ⟨rfl, hB⟩
      have HI := Lib.hid (HI.out.low hB)
      clear hB x0 x1 x2 x3 x4
      have x0 := HI.out.c0
      have x1 := HI.out.c1
      have x2 := HI.out.c2
      have x3 := HI.out.c3
      have x4 := HI.out.c4
      go_wp2_with fail
      refine (C1.out _ (HS.out.below HI.out.below (Nat.le_refl _)) (HT.out.below HI.out.below (Nat.le_refl _))).mono ?_
      rintro e w2 ⟨y1, k1, rfl, ho, hB⟩
      have HI := Lib.hid (HI.out.low hB)
      have R1 := Lib.hid ((ranges_of_own ho).1)
      clear hB x0 x1 x2 x3 x4 ho
      have x0 := HI.out.c0
      have x1 := HI.out.c1
      have x2 := HI.out.c2
      have x3 := HI.out.c3
      have x4 := HI.out.c4
      go_wp2_with fail
      refine (C2.out _ (HS.out.below HI.out.below (Nat.le_refl _)) (HT.out.below HI.out.below (Nat.le_refl _))).mono ?_
      rintro e w3 ⟨y2, k2, rfl, ho, hB⟩
      have R1 := Lib.hid (R1.out.below hB (Nat.le_refl _))
      have HI := Lib.hid (HI.out.low hB)
      have R2 := Lib.hid ((ranges_of_own ho).1)
      clear hB x0 x1 x2 x3 x4 ho
      have x0 := HI.out.c0
      have x1 := HI.out.c1
      have x2 := HI.out.c2
      have x3 := HI.out.c3
      have x4 := HI.out.c4
      go_wp2_with fail
      refine (sameG_self M.length _ _ _ _ _ _ rfl R1.out R2.out (by have := HML.out; omega)).mono ?_
      rintro e w4 ⟨rfl, hB⟩
      have R1 := Lib.hid (R1.out.below hB (Nat.le_refl _))
      have R2 := Lib.hid (R2.out.below hB (Nat.le_refl _))
      have HI := Lib.hid (HI.out.low hB)
      clear hB x0 x1 x2 x3 x4
      have x0 := HI.out.c0
      have x1 := HI.out.c1
      have x2 := HI.out.c2
      have x3 := HI.out.c3
      have x4 := HI.out.c4
      go_wp2_with fail
      go_loopw [7, 8] (fun s7 s8 wr => ∃ k : Nat, k ≤ M.length ∧ s8 = .int .i64 k ∧ s7 = .int .i64 (opI M k) ∧ Below w4.heap.size w4 wr) (fun _ s8 _ => M.length - (intOf s8).toNat)
      case atStart => exact ⟨0, Nat.zero_le _, rfl, rfl, Below.refl _ _⟩
      case round =>
        obtain ⟨k, hk, rfl, rfl, hBr⟩ := hrel
        have HI := Lib.hid (HI.out.low hBr)
        have R1 := Lib.hid (R1.out.below hBr (Nat.le_refl _))
        have R2 := Lib.hid (R2.out.below hBr (Nat.le_refl _))
        have HBR := Lib.hid hBr
        clear hBr x0 x1 x2 x3 x4
        have hob := HOB.out k
        by_cases hlt : k < M.length
        · obtain ⟨g, off, x, rfl, hlg, hx, f0, f1⟩ := R1.out.at_ hlt
          have hs : opI M (k + 1) = opI M k + (if x.lo < x.hi then 1 else 0) := by rw [opI, getD_of_get hx]
          have HSU := Lib.hid hs
          have HRL := Lib.hid (fun nq => below_dn (q := nq) HBR.out)
          have hm4 := HML.out
          clear hx hs
          have hlt1 : (k : Int) < (M.length : Int) := by omega
          have hlt2 : decide ((k : Int) < (M.length : Int)) = true := decide_eq_true hlt1
          generalize opI M k = O at *
          by_cases hd : x.lo < x.hi
          · rw [if_pos hd] at HSU
            have hd1 : decide (x.lo < x.hi) = true := decide_eq_true hd
            clear hd
            go_wp2_with fail
            go_quiet (fail)
            go_wp2_with fail
            go_roundw
            case rel => exact ⟨k + 1, by omega, by go_num, by rw [HSU.out], HRL.out _⟩
            case measure => simp [intOf]; omega
          · rw [if_neg hd] at HSU
            have hd1 : decide (x.lo < x.hi) = false := decide_eq_false hd
            clear hd
            go_wp2_with fail
            go_quiet (fail)
            go_wp2_with fail
            go_roundw
            case rel => exact ⟨k + 1, by omega, by go_num, by rw [HSU.out, Int.add_zero], HRL.out _⟩
            case measure => simp [intOf]; omega
        · obtain rfl : k = M.length := by omega
          have hlt1 : ¬ (M.length : Int) < (M.length : Int) := by omega
          have hlt2 : decide ((M.length : Int) < (M.length : Int)) = false := decide_eq_false hlt1
          rw [HO.out] at *
          clear hob hlt
          have x0 := HI.out.c0
          have x1 := HI.out.c1
          have x2 := HI.out.c2
          have x3 := HI.out.c3
          have x4 := HI.out.c4
          go_wp2_with fail
          refine (C3.out _ _ _ R1.out).mono ?_
          rintro e w6 ⟨rfl, hB⟩
          have R1 := Lib.hid (R1.out.below hB (Nat.le_refl _))
          have R2 := Lib.hid (R2.out.below hB (Nat.le_refl _))
          have HI := Lib.hid (HI.out.low hB)
          clear hB x0 x1 x2 x3 x4
          have x0 := HI.out.c0
          have x1 := HI.out.c1
          have x2 := HI.out.c2
          have x3 := HI.out.c3
          have x4 := HI.out.c4
          go_wp2_with fail
          refine (C4.out _ (HS.out.below HI.out.below (Nat.le_refl _)) (HT.out.below HI.out.below (Nat.le_refl _))).mono ?_
          rintro e w7 ⟨rfl, hB⟩
          have R1 := Lib.hid (R1.out.below hB (Nat.le_refl _))
          have R2 := Lib.hid (R2.out.below hB (Nat.le_refl _))
          have HI := Lib.hid (HI.out.low hB)
          clear hB x0 x1 x2 x3 x4
          have x0 := HI.out.c0
          have x1 := HI.out.c1
          have x2 := HI.out.c2
          have x3 := HI.out.c3
          have x4 := HI.out.c4
          go_wp2_with fail
          refine (known6_true _ ).mono ?_
          rintro e w8 ⟨rfl, hB⟩
          have R1 := Lib.hid (R1.out.below hB (Nat.le_refl _))
          have R2 := Lib.hid (R2.out.below hB (Nat.le_refl _))
          have HI := Lib.hid (HI.out.low hB)
          clear hB x0 x1 x2 x3 x4
          have x0 := HI.out.c0
          have x1 := HI.out.c1
          have x2 := HI.out.c2
          have x3 := HI.out.c3
          have x4 := HI.out.c4
          go_wp2_with fail
          go_ret
          exact ⟨rfl, HI.out.below⟩
    · have hG : ((vcon lo hi out mn mx != 0) = true) ∨ ((vcon lo hi out mn mx != 0) = false ∧ (opI (ofA lo hi out mn mx) (ofA lo hi out mn mx).length != 1) = true) := by
        rcases Bool.eq_false_or_eq_true (vcon lo hi out mn mx != 0) with n1 | n1
        · exact .inl n1
        · refine .inr ⟨n1, ?_⟩
          have n2 : vcon lo hi out mn mx = 0 := by simpa using n1
          simp only [bne_iff_ne, ne_eq]
          exact fun h => hz ⟨n2, h⟩
      have ee : (vcon lo hi out mn mx != vcon lo hi out mn mx) = false := by simp
      obtain ⟨OO, hOO⟩ : ∃ OO, OO = opI (ofA lo hi out mn mx) (ofA lo hi out mn mx).length := ⟨_, rfl⟩
      rw [← hOO] at hG
      have HO := Lib.hid hOO.symm
      generalize ofA lo hi out mn mx = M at *
      generalize vcon lo hi out mn mx = E at *
      generalize boxN lo hi out mn mx = BN at *
      generalize sizeA M = SM at *
      generalize vb M = VM at *
      clear hz hl hh hbig m1 m2 hOO
      rcases hG with g1 | ⟨g1, g2⟩
      · go_enter Try.func7, Try.ntmps7
        go_wp2_with fail
        refine (HW.out _ ).mono ?_
        rintro e w1 ⟨rfl, hB⟩
        have HI := Lib.hid (HI.out.low hB)
        clear hB x0 x1 x2 x3 x4
        have x0 := HI.out.c0
        have x1 := HI.out.c1
        have x2 := HI.out.c2
        have x3 := HI.out.c3
        have x4 := HI.out.c4
        go_wp2_with fail
        refine (C1.out _ (HS.out.below HI.out.below (Nat.le_refl _)) (HT.out.below HI.out.below (Nat.le_refl _))).mono ?_
        rintro e w2 ⟨y1, k1, rfl, ho, hB⟩
        have HI := Lib.hid (HI.out.low hB)
        have R1 := Lib.hid ((ranges_of_own ho).1)
        clear hB x0 x1 x2 x3 x4 ho
        have x0 := HI.out.c0
        have x1 := HI.out.c1
        have x2 := HI.out.c2
        have x3 := HI.out.c3
        have x4 := HI.out.c4
        go_wp2_with fail
        refine (C2.out _ (HS.out.below HI.out.below (Nat.le_refl _)) (HT.out.below HI.out.below (Nat.le_refl _))).mono ?_
        rintro e w3 ⟨y2, k2, rfl, ho, hB⟩
        have R1 := Lib.hid (R1.out.below hB (Nat.le_refl _))
        have HI := Lib.hid (HI.out.low hB)
        have R2 := Lib.hid ((ranges_of_own ho).1)
        clear hB x0 x1 x2 x3 x4 ho
        have x0 := HI.out.c0
        have x1 := HI.out.c1
        have x2 := HI.out.c2
        have x3 := HI.out.c3
        have x4 := HI.out.c4
        go_wp2_with fail
        refine (sameG_self M.length _ _ _ _ _ _ rfl R1.out R2.out (by have := HML.out; omega)).mono ?_
        rintro e w4 ⟨rfl, hB⟩
        have R1 := Lib.hid (R1.out.below hB (Nat.le_refl _))
        have R2 := Lib.hid (R2.out.below hB (Nat.le_refl _))
        have HI := Lib.hid (HI.out.low hB)
        clear hB x0 x1 x2 x3 x4
        have x0 := HI.out.c0
        have x1 := HI.out.c1
        have x2 := HI.out.c2
        have x3 := HI.out.c3
        have x4 := HI.out.c4
        go_wp2_with fail
        go_loopw [7, 8] (fun s7 s8 wr => ∃ k : Nat, k ≤ M.length ∧ s8 = .int .i64 k ∧ s7 = .int .i64 (opI M k) ∧ Below w4.heap.size w4 wr) (fun _ s8 _ => M.length - (intOf s8).toNat)
        case atStart => exact ⟨0, Nat.zero_le _, rfl, rfl, Below.refl _ _⟩
        case round =>
          obtain ⟨k, hk, rfl, rfl, hBr⟩ := hrel
          have HI := Lib.hid (HI.out.low hBr)
          have R1 := Lib.hid (R1.out.below hBr (Nat.le_refl _))
          have R2 := Lib.hid (R2.out.below hBr (Nat.le_refl _))
          have HBR := Lib.hid hBr
          clear hBr x0 x1 x2 x3 x4
          have hob := HOB.out k
          by_cases hlt : k < M.length
          · obtain ⟨g, off, x, rfl, hlg, hx, f0, f1⟩ := R1.out.at_ hlt
            have hs : opI M (k + 1) = opI M k + (if x.lo < x.hi then 1 else 0) := by rw [opI, getD_of_get hx]
            have HSU := Lib.hid hs
            have HRL := Lib.hid (fun nq => below_dn (q := nq) HBR.out)
            have hm4 := HML.out
            clear hx hs
            have hlt1 : (k : Int) < (M.length : Int) := by omega
            have hlt2 : decide ((k : Int) < (M.length : Int)) = true := decide_eq_true hlt1
            generalize opI M k = O at *
            by_cases hd : x.lo < x.hi
            · rw [if_pos hd] at HSU
              have hd1 : decide (x.lo < x.hi) = true := decide_eq_true hd
              clear hd
              go_wp2_with fail
              go_quiet (fail)
              go_wp2_with fail
              go_roundw
              case rel => exact ⟨k + 1, by omega, by go_num, by rw [HSU.out], HRL.out _⟩
              case measure => simp [intOf]; omega
            · rw [if_neg hd] at HSU
              have hd1 : decide (x.lo < x.hi) = false := decide_eq_false hd
              clear hd
              go_wp2_with fail
              go_quiet (fail)
              go_wp2_with fail
              go_roundw
              case rel => exact ⟨k + 1, by omega, by go_num, by rw [HSU.out, Int.add_zero], HRL.out _⟩
              case measure => simp [intOf]; omega
          · obtain rfl : k = M.length := by omega
            have hlt1 : ¬ (M.length : Int) < (M.length : Int) := by omega
            have hlt2 : decide ((M.length : Int) < (M.length : Int)) = false := decide_eq_false hlt1
            rw [HO.out] at *
            clear hob hlt
            have x0 := HI.out.c0
            have x1 := HI.out.c1
            have x2 := HI.out.c2
            have x3 := HI.out.c3
            have x4 := HI.out.c4
            go_wp2_with fail
            refine (C3.out _ _ _ R1.out).mono ?_
            rintro e w6 ⟨rfl, hB⟩
            have R1 := Lib.hid (R1.out.below hB (Nat.le_refl _))
            have R2 := Lib.hid (R2.out.below hB (Nat.le_refl _))
            have HI := Lib.hid (HI.out.low hB)
            clear hB x0 x1 x2 x3 x4
            have x0 := HI.out.c0
            have x1 := HI.out.c1
            have x2 := HI.out.c2
            have x3 := HI.out.c3
            have x4 := HI.out.c4
            go_wp2_with fail
            refine (C4.out _ (HS.out.below HI.out.below (Nat.le_refl _)) (HT.out.below HI.out.below (Nat.le_refl _))).mono ?_
            rintro e w7 ⟨rfl, hB⟩
            have R1 := Lib.hid (R1.out.below hB (Nat.le_refl _))
            have R2 := Lib.hid (R2.out.below hB (Nat.le_refl _))
            have HI := Lib.hid (HI.out.low hB)
            clear hB x0 x1 x2 x3 x4
            have x0 := HI.out.c0
            have x1 := HI.out.c1
            have x2 := HI.out.c2
            have x3 := HI.out.c3
            have x4 := HI.out.c4
            go_wp2_with fail
            refine (known6_true _ ).mono ?_
            rintro e w8 ⟨rfl, hB⟩
            have R1 := Lib.hid (R1.out.below hB (Nat.le_refl _))
            have R2 := Lib.hid (R2.out.below hB (Nat.le_refl _))
            have HI := Lib.hid (HI.out.low hB)
            clear hB x0 x1 x2 x3 x4
            have x0 := HI.out.c0
            have x1 := HI.out.c1
            have x2 := HI.out.c2
            have x3 := HI.out.c3
            have x4 := HI.out.c4
            go_wp2_with fail
            go_ret
            exact ⟨rfl, HI.out.below⟩
      · go_enter Try.func7, Try.ntmps7
        go_wp2_with fail
        refine (HW.out _ ).mono ?_
        rintro e w1 ⟨rfl, hB⟩
        have HI := Lib.hid (HI.out.low hB)
        clear hB x0 x1 x2 x3 x4
        have x0 := HI.out.c0
        have x1 := HI.out.c1
        have x2 := HI.out.c2
        have x3 := HI.out.c3
        have x4 := HI.out.c4
        go_wp2_with fail
        refine (C1.out _ (HS.out.below HI.out.below (Nat.le_refl _)) (HT.out.below HI.out.below (Nat.le_refl _))).mono ?_
        rintro e w2 ⟨y1, k1, rfl, ho, hB⟩
        have HI := Lib.hid (HI.out.low hB)
        have R1 := Lib.hid ((ranges_of_own ho).1)
        clear hB x0 x1 x2 x3 x4 ho
        have x0 := HI.out.c0
        have x1 := HI.out.c1
        have x2 := HI.out.c2
        have x3 := HI.out.c3
        have x4 := HI.out.c4
        go_wp2_with fail
        refine (C2.out _ (HS.out.below HI.out.below (Nat.le_refl _)) (HT.out.below HI.out.below (Nat.le_refl _))).mono ?_
        rintro e w3 ⟨y2, k2, rfl, ho, hB⟩
        have R1 := Lib.hid (R1.out.below hB (Nat.le_refl _))
        have HI := Lib.hid (HI.out.low hB)
        have R2 := Lib.hid ((ranges_of_own ho).1)
        clear hB x0 x1 x2 x3 x4 ho
        have x0 := HI.out.c0
        have x1 := HI.out.c1
        have x2 := HI.out.c2
        have x3 := HI.out.c3
        have x4 := HI.out.c4
        go_wp2_with fail
        refine (sameG_self M.length _ _ _ _ _ _ rfl R1.out R2.out (by have := HML.out; omega)).mono ?_
        rintro e w4 ⟨rfl, hB⟩
        have R1 := Lib.hid (R1.out.below hB (Nat.le_refl _))
        have R2 := Lib.hid (R2.out.below hB (Nat.le_refl _))
        have HI := Lib.hid (HI.out.low hB)
        clear hB x0 x1 x2 x3 x4
        have x0 := HI.out.c0
        have x1 := HI.out.c1
        have x2 := HI.out.c2
        have x3 := HI.out.c3
        have x4 := HI.out.c4
        go_wp2_with fail
        go_loopw [7, 8] (fun s7 s8 wr => ∃ k : Nat, k ≤ M.length ∧ s8 = .int .i64 k ∧ s7 = .int .i64 (opI M k) ∧ Below w4.heap.size w4 wr) (fun _ s8 _ => M.length - (intOf s8).toNat)
        case atStart => exact ⟨0, Nat.zero_le _, rfl, rfl, Below.refl _ _⟩
        case round =>
          obtain ⟨k, hk, rfl, rfl, hBr⟩ := hrel
          have HI := Lib.hid (HI.out.low hBr)
          have R1 := Lib.hid (R1.out.below hBr (Nat.le_refl _))
          have R2 := Lib.hid (R2.out.below hBr (Nat.le_refl _))
          have HBR := Lib.hid hBr
          clear hBr x0 x1 x2 x3 x4
          have hob := HOB.out k
          by_cases hlt : k < M.length
          · obtain ⟨g, off, x, rfl, hlg, hx, f0, f1⟩ := R1.out.at_ hlt
            have hs : opI M (k + 1) = opI M k + (if x.lo < x.hi then 1 else 0) := by rw [opI, getD_of_get hx]
            have HSU := Lib.hid hs
            have HRL := Lib.hid (fun nq => below_dn (q := nq) HBR.out)
            have hm4 := HML.out
            clear hx hs
            have hlt1 : (k : Int) < (M.length : Int) := by omega
            have hlt2 : decide ((k : Int) < (M.length : Int)) = true := decide_eq_true hlt1
            generalize opI M k = O at *
            by_cases hd : x.lo < x.hi
            · rw [if_pos hd] at HSU
              have hd1 : decide (x.lo < x.hi) = true := decide_eq_true hd
              clear hd
              go_wp2_with fail
              go_quiet (fail)
              go_wp2_with fail
              go_roundw
              case rel => exact ⟨k + 1, by omega, by go_num, by rw [HSU.out], HRL.out _⟩
              case measure => simp [intOf]; omega
            · rw [if_neg hd] at HSU
              have hd1 : decide (x.lo < x.hi) = false := decide_eq_false hd
              clear hd
              go_wp2_with fail
              go_quiet (fail)
              go_wp2_with fail
              go_roundw
              case rel => exact ⟨k + 1, by omega, by go_num, by rw [HSU.out, Int.add_zero], HRL.out _⟩
              case measure => simp [intOf]; omega
          · obtain rfl : k = M.length := by omega
            have hlt1 : ¬ (M.length : Int) < (M.length : Int) := by omega
            have hlt2 : decide ((M.length : Int) < (M.length : Int)) = false := decide_eq_false hlt1
            rw [HO.out] at *
            clear hob hlt
            have x0 := HI.out.c0
            have x1 := HI.out.c1
            have x2 := HI.out.c2
            have x3 := HI.out.c3
            have x4 := HI.out.c4
            go_wp2_with fail
            refine (C3.out _ _ _ R1.out).mono ?_
            rintro e w6 ⟨rfl, hB⟩
            have R1 := Lib.hid (R1.out.below hB (Nat.le_refl _))
            have R2 := Lib.hid (R2.out.below hB (Nat.le_refl _))
            have HI := Lib.hid (HI.out.low hB)
            clear hB x0 x1 x2 x3 x4
            have x0 := HI.out.c0
            have x1 := HI.out.c1
            have x2 := HI.out.c2
            have x3 := HI.out.c3
            have x4 := HI.out.c4
            go_wp2_with fail
            refine (C4.out _ (HS.out.below HI.out.below (Nat.le_refl _)) (HT.out.below HI.out.below (Nat.le_refl _))).mono ?_
            rintro e w7 ⟨rfl, hB⟩
            have R1 := Lib.hid (R1.out.below hB (Nat.le_refl _))
            have R2 := Lib.hid (R2.out.below hB (Nat.le_refl _))
            have HI := Lib.hid (HI.out.low hB)
            clear hB x0 x1 x2 x3 x4
            have x0 := HI.out.c0
            have x1 := HI.out.c1
            have x2 := HI.out.c2
            have x3 := HI.out.c3
            have x4 := HI.out.c4
            go_wp2_with fail
            refine (known6_true _ ).mono ?_
            rintro e w8 ⟨rfl, hB⟩
            have R1 := Lib.hid (R1.out.below hB (Nat.le_refl _))
            have R2 := Lib.hid (R2.out.below hB (Nat.le_refl _))
            have HI := Lib.hid (HI.out.low hB)
            clear hB x0 x1 x2 x3 x4
            have x0 := HI.out.c0
            have x1 := HI.out.c1
            have x2 := HI.out.c2
            have x3 := HI.out.c3
            have x4 := HI.out.c4
            go_wp2_with fail
            go_ret
            exact ⟨rfl, HI.out.below⟩

end Go.Proofs.Ytmpghapfldjfeaa
