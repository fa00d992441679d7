/- Several texts in one. -/
import Derived.Test.YtfclfmloceddfaaGreatDbB
import Derived.Test.YtfclfmloceddfaaGreatFcA
import Derived.Test.YtfclfmloceddfaaGreatAlM
import Derived.Test.YtfclfmloceddfaaGreatSgD
/- double, Double of seek: contracts. -/
set_option linter.unusedVariables false
set_option linter.unusedSimpArgs false
namespace Go.Proofs.YtfclfmloceddfaaGreat
open Go.RowKit Go.Shelf Tinker

theorem capX {w : World} {base n size c : Nat} {e : TypeId} {a : Option Addr} {xs : List Value} (h : w.ownsRow base e size (.slice a n c) n xs) : n ≤ c := by
  rcases h.2 with ⟨he, hn⟩ | ⟨g', cap, cur, he, hb, hg, hn, _⟩
  · omega
  · injection he with _ _ hc
    omega
/-- The smallest good pair's edits. -/
def dbL (ps : List L) (ts : List T) : List E := match dbO ps ts with | some y => pE y.1 | none => []
def GivesDb (l : List E) (b : Bool) (w : World) (e : Ending) (w' : World) : Prop := ∃ g c, e = .returned (.tuple #[.slice g l.length c, .bool b]) ∧ EditsAt w' g l ∧ Below w.heap.size w w'

set_option maxRecDepth 100000 in
set_option maxHeartbeats 4000000 in
theorem sdouble_any (a h : Option Addr) (ca ch : Nat) (ps : List L) (ts : List T) (w : World) (hp : LinesAt w a ps) (hts : TestsAt w h ts) (hv : vp ps = 0) (ht : vts ts = 0) :
    Calls Tryz.prog 19 #[.slice a ps.length ca, .slice h ts.length ch] w (GivesDb (dbL ps ts) (dbO ps ts).isSome w) := by
  have h8 := (vp_ok hv).1
  have hlE : (edL ps 0).length ≤ 1000 := by have := edL_len20 hv; omega
  have H1 := Lib.hid (fun w h9 => sedits_any a ca ps 0 w h9 hv (by omega) (by omega))
  have H2 := Lib.hid (fun g cg w h1 h2 => spairs_any g cg (edL ps 0) w h1 h2 hlE)
  have hlP : (prL (edL ps 0)).length ≤ 1000000 := Nat.le_trans (prK_len _ _) (Nat.le_trans (Nat.mul_le_mul hlE hlE) (by decide))
  have H3 := Lib.hid (fun bs g cg w h1 h2 h3 => smallestP_any a h ca ch ps ts bs g cg (prL (edL ps 0)) w h1 h2 h3 (fun z hz => pE_ok hv hz) ht (by omega) hlP)
  have HP := Lib.hid hp
  have HT := Lib.hid hts
  have HO := Lib.hid (show dmX ps ts (prL (edL ps 0)) = dbO ps ts from rfl)
  have HL := Lib.hid (show dbL ps ts = match dbO ps ts with | some y => pE y.1 | none => [] from rfl)
  rw [HO.out] at H3
  generalize dbL ps ts = DL at *
  generalize dbO ps ts = o at *
  rw [show srcV 0 = (.iface 76 (.agg #[]) : Value) from rfl] at H1
  generalize edL ps 0 = XS at *
  generalize prL XS = ZS at *
  clear hv ht hp hts h8 hlE hlP HO
  go_enter Tryz.func19, Tryz.ntmps19
  go_wp2_with fail
  refine (H1.out _ HP.out).mono ?_
  rintro e w1 ⟨a1, k1, rfl, hq, hB⟩
  have HX := Lib.hid (edits_of_own hq).1
  have hk1 : XS.length ≤ k1 := capX hq
  have HB1 := Lib.hid hB
  clear hq hB
  go_wp2_with fail
  refine (H2.out _ _ _ HX.out hk1).mono ?_
  rintro e w2 ⟨a2, k2, rfl, hq, hB⟩
  have HQ := Lib.hid hq
  have HB2 := Lib.hid (HB1.out.trans (hB.mono HB1.out.size))
  clear hq hB
  go_wp2_with fail
  refine (H3.out _ _ _ _ (HP.out.below HB2.out (Nat.le_refl _)) (HT.out.below HB2.out (Nat.le_refl _)) HQ.out).mono ?_
  rintro e w3 ⟨rfl, hB⟩
  have HB3 := Lib.hid (HB2.out.trans (hB.mono HB2.out.size))
  have HE := Lib.hid (pair_at w3 69 (bsZ o))
  have HB4 := Lib.hid (HB3.out.trans ((((Below.refl w3.heap.size w3).alloc (Nat.le_refl _) (.cells (zV (bsZ o)) 69))).mono HB3.out.size))
  clear hB HQ HX
  unfold zV at *
  cases o with
  | none =>
    rw [show (none : Option ((E × E) × Int)).isSome = false from rfl]
    go_wp2_with fail
    go_ret2
    rw [HL.out]
    exact ⟨_, _, rfl, .inl rfl, HB4.out⟩
  | some y =>
    rw [show (some y).isSome = true from rfl]
    go_wp2_with fail
    go_ret2
    rw [HL.out]
    exact ⟨_, _, rfl, HE.out, HB4.out⟩

/-- What Double answers. -/
def dbQ (ps : List L) (ts : List T) : List E := if skC ps ts 0 = 0 then dbL ps ts else []
def dbB (ps : List L) (ts : List T) : Bool := if skC ps ts 0 = 0 then (dbO ps ts).isSome else false
def GivesDbE (l : List E) (b : Bool) (c : Int) (w : World) (e : Ending) (w' : World) : Prop := ∃ g k, e = .returned (.tuple #[.slice g l.length k, .bool b, .int .i64 c]) ∧ EditsAt w' g l ∧ Below w.heap.size w w'
theorem skC_db (ps : List L) (ts : List T) : feL [feL [vp ps, vts ts], ndC ps ts] = skC ps ts 0 := by
  unfold skC
  have hk : kdC 0 = 0 := rfl
  rw [hk]
  generalize feL [vp ps, vts ts] = q
  by_cases h : q = 0
  · subst h; simp [feL]
  · simp [feL, h]

set_option maxRecDepth 100000 in
set_option maxHeartbeats 4000000 in
theorem sDouble_any (a h : Option Addr) (ca ch : Nat) (ps : List L) (ts : List T) (w : World) (hp : LinesAt w a ps) (hts : TestsAt w h ts) (hm : ps.length ≤ 1000) (hm2 : ts.length ≤ 1000) (hml : ∀ t ∈ ts, t.inn.length ≤ 1000) :
    Calls Tryz.prog 8 #[.slice a ps.length ca, .slice h ts.length ch] w (GivesDbE (dbQ ps ts) (dbB ps ts) (skC ps ts 0) w) := by
  have H1 := Lib.hid (fun w h1 h2 => sValidateTests_any a h ca ch ps ts w h1 h2 hm hm2 hml)
  have H4 := Lib.hid (fun w h1 h2 => sValidateNeed_any a h ca ch ps ts w h1 h2 hm hm2 hml)
  have HP := Lib.hid hp
  have HT := Lib.hid hts
  by_cases hz : skC ps ts 0 = 0
  · obtain ⟨v1, v2, v3, v4⟩ := skC_ok hz
    have hfe : feL [feL [vp ps, vts ts], ndC ps ts] = 0 := (skC_db ps ts).trans hz
    have H7 := Lib.hid (fun w h1 h2 => sdouble_any a h ca ch ps ts w h1 h2 v1 v2)
    rw [hz, show dbQ ps ts = dbL ps ts by unfold dbQ; rw [if_pos hz], show dbB ps ts = (dbO ps ts).isSome by unfold dbB; rw [if_pos hz]]
    clear hz v1 v2 v3 v4 hp hts hml
    generalize dbL ps ts = R at *
    generalize (dbO ps ts).isSome = rb at *
    generalize feL [vp ps, vts ts] = d1 at *
    generalize ndC ps ts = d4 at *
    go_enter Tryz.func8, Tryz.ntmps8
    go_wp2_with fail
    refine (H1.out _ HP.out HT.out).mono ?_
    rintro e w1 ⟨rfl, hB⟩
    have HB1 := Lib.hid hB
    clear hB
    go_wp2_with fail
    refine (H4.out _ (HP.out.below HB1.out (Nat.le_refl _)) (HT.out.below HB1.out (Nat.le_refl _))).mono ?_
    rintro e w3 ⟨rfl, hB⟩
    have HB3 := Lib.hid (HB1.out.trans (hB.mono HB1.out.size))
    clear hB
    go_wp2_with fail
    refine (firstError_any _ 2 [d1, d4] _ (ints_lit' (zs := [d1, d4]) rfl) (by simp)).mono ?_
    rintro e w4 ⟨rfl, rfl⟩
    rw [hfe]
    have HB4 := Lib.hid (HB3.out.alloc HB3.out.size (.cells (iv [d1, d4]) 28))
    generalize w3.alloc (.cells (iv [d1, d4]) 28) = W4 at *
    go_wp2_with fail
    refine (H7.out _ (HP.out.below HB4.out (Nat.le_refl _)) (HT.out.below HB4.out (Nat.le_refl _))).mono ?_
    rintro e w6 ⟨aq, cq, rfl, hq, hB⟩
    have HX := Lib.hid hq
    have HB6 := Lib.hid (HB4.out.trans (hB.mono HB4.out.size))
    clear hB hq
    go_wp2_with fail
    go_ret3
    exact ⟨_, _, rfl, HX.out, HB6.out⟩
  · have hfe : feL [feL [vp ps, vts ts], ndC ps ts] = skC ps ts 0 := skC_db ps ts
    have y1 : (skC ps ts 0 != 0) = true := by simpa using hz
    rw [show dbQ ps ts = [] by unfold dbQ; rw [if_neg hz], show dbB ps ts = false by unfold dbB; rw [if_neg hz]]
    clear hz hp hts hml
    generalize skC ps ts 0 = q at *
    generalize feL [vp ps, vts ts] = d1 at *
    generalize ndC ps ts = d4 at *
    go_enter Tryz.func8, Tryz.ntmps8
    go_wp2_with fail
    refine (H1.out _ HP.out HT.out).mono ?_
    rintro e w1 ⟨rfl, hB⟩
    have HB1 := Lib.hid hB
    clear hB
    go_wp2_with fail
    refine (H4.out _ (HP.out.below HB1.out (Nat.le_refl _)) (HT.out.below HB1.out (Nat.le_refl _))).mono ?_
    rintro e w3 ⟨rfl, hB⟩
    have HB3 := Lib.hid (HB1.out.trans (hB.mono HB1.out.size))
    clear hB
    go_wp2_with fail
    refine (firstError_any _ 2 [d1, d4] _ (ints_lit' (zs := [d1, d4]) rfl) (by simp)).mono ?_
    rintro e w4 ⟨rfl, rfl⟩
    rw [hfe]
    have HB4 := Lib.hid (HB3.out.alloc HB3.out.size (.cells (iv [d1, d4]) 28))
    generalize w3.alloc (.cells (iv [d1, d4]) 28) = W4 at *
    go_wp2_with fail
    go_ret3
    exact ⟨_, _, rfl, .inl rfl, HB4.out⟩

end Go.Proofs.YtfclfmloceddfaaGreat

/- Double, Repair of the document, over its double. -/
set_option linter.unusedVariables false
set_option linter.unusedSimpArgs false
namespace Go.Proofs.YtfclfmloceddfaaGreat
open Go.RowKit Go.Shelf Tinker

set_option maxRecDepth 100000 in
set_option maxHeartbeats 4000000 in
theorem rDouble_of (a h : Option Addr) (ca ch : Nat) (ps : List L) (ts : List T) (w : World) (hp : LinesAt w a ps) (hts : TestsAt w h ts) (HDB : ∀ w : World, LinesAt w a ps → TestsAt w h ts → vp ps = 0 → vts ts = 0 → Calls Tryz.prog 21 #[.slice a ps.length ca, .slice h ts.length ch] w (GivesDb (dbL ps ts) (dbO ps ts).isSome w)) :
    Calls Tryz.prog 9 #[.slice a ps.length ca, .slice h ts.length ch] w (GivesDbE (dbQ ps ts) (dbB ps ts) (skC ps ts 0) w) := by
  have H1 := Lib.hid (fun w h1 h2 => rsought_any a h ca ch ps ts 0 w h1 h2)
  have HP := Lib.hid hp
  have HT := Lib.hid hts
  by_cases hz : skC ps ts 0 = 0
  · obtain ⟨v1, v2, v3, v4⟩ := skC_ok hz
    have H7 := Lib.hid (fun w h1 h2 => HDB w h1 h2 v1 v2)
    rw [hz] at H1
    rw [hz, show dbQ ps ts = dbL ps ts by unfold dbQ; rw [if_pos hz], show dbB ps ts = (dbO ps ts).isSome by unfold dbB; rw [if_pos hz]]
    clear hz v1 v2 v3 v4 hp hts HDB
    generalize dbL ps ts = R at *
    generalize (dbO ps ts).isSome = rb at *
    go_enter Tryz.func9, Tryz.ntmps9
    go_wp2_with fail
    refine (H1.out _ HP.out HT.out).mono ?_
    rintro e w1 ⟨rfl, hB⟩
    have HB4 := Lib.hid hB
    clear hB
    go_wp2_with fail
    refine (H7.out _ (HP.out.below HB4.out (Nat.le_refl _)) (HT.out.below HB4.out (Nat.le_refl _))).mono ?_
    rintro e w6 ⟨aq, cq, rfl, hq, hB⟩
    have HX := Lib.hid hq
    have HB6 := Lib.hid (HB4.out.trans (hB.mono HB4.out.size))
    clear hB hq
    go_wp2_with fail
    go_ret3
    exact ⟨_, _, rfl, HX.out, HB6.out⟩
  · have y1 : (skC ps ts 0 != 0) = true := by simpa using hz
    rw [show dbQ ps ts = [] by unfold dbQ; rw [if_neg hz], show dbB ps ts = false by unfold dbB; rw [if_neg hz]]
    clear hz hp hts HDB
    generalize skC ps ts 0 = q at *
    go_enter Tryz.func9, Tryz.ntmps9
    go_wp2_with fail
    refine (H1.out _ HP.out HT.out).mono ?_
    rintro e w1 ⟨rfl, hB⟩
    have HB4 := Lib.hid hB
    clear hB
    go_wp2_with fail
    go_ret3
    exact ⟨_, _, rfl, .inl rfl, HB4.out⟩

theorem results_tmp4 {fn : Func} {t u v x : Tmp} (h : fn.results = #[.tmp t, .tmp u, .tmp v, .tmp x]) (tmps : Array Value) (P : Program) (w : World) :
    (results fn tmps).run P w = .ok (.tuple #[tmps.getD t undef, tmps.getD u undef, tmps.getD v undef, tmps.getD x undef]) w := by
  simp [results, h]
/-- What Repair answers: from a kind on. -/
abbrev RP := List E × Int × Bool
def rp3 (ps : List L) (ts : List T) : RP := (dbL ps ts, if (dbO ps ts).isSome = true then 3 else 0, (dbO ps ts).isSome)
def rpS (ps : List L) (ts : List T) (n : Int) (r : RP) : RP := match smX ps ts (edL ps n) with | some y => ([y.1], n, true) | none => r
def rpF (ps : List L) (ts : List T) (k : Nat) : RP := if k = 0 then rpS ps ts 0 (rpS ps ts 1 (rpS ps ts 2 (rp3 ps ts))) else if k = 1 then rpS ps ts 1 (rpS ps ts 2 (rp3 ps ts)) else if k = 2 then rpS ps ts 2 (rp3 ps ts) else rp3 ps ts
theorem rpF_step (ps : List L) (ts : List T) {k : Nat} (hk : k < 3) : rpF ps ts k = rpS ps ts (k : Int) (rpF ps ts (k + 1)) := by
  have : k = 0 ∨ k = 1 ∨ k = 2 := by omega
  rcases this with rfl | rfl | rfl <;> rfl
def rpQ (ps : List L) (ts : List T) : RP := if skC ps ts 0 = 0 then rpF ps ts 0 else ([], 0, false)
def GivesRp (r : RP) (c : Int) (w : World) (e : Ending) (w' : World) : Prop := ∃ g k, e = .returned (.tuple #[.slice g r.1.length k, .int .i64 r.2.1, .bool r.2.2, .int .i64 c]) ∧ EditsAt w' g r.1 ∧ Below w.heap.size w w'

set_option maxRecDepth 100000 in
set_option maxHeartbeats 4000000 in
theorem rRepair_of (a h : Option Addr) (ca ch : Nat) (ps : List L) (ts : List T) (w : World) (hp : LinesAt w a ps) (hts : TestsAt w h ts) (HDB : ∀ w : World, LinesAt w a ps → TestsAt w h ts → vp ps = 0 → vts ts = 0 → Calls Tryz.prog 21 #[.slice a ps.length ca, .slice h ts.length ch] w (GivesDb (dbL ps ts) (dbO ps ts).isSome w)) :
    Calls Tryz.prog 13 #[.slice a ps.length ca, .slice h ts.length ch] w (GivesRp (rpQ ps ts) (skC ps ts 0) w) := by
  have H1 := Lib.hid (fun w h1 h2 => rsought_any a h ca ch ps ts 0 w h1 h2)
  have HP := Lib.hid hp
  have HT := Lib.hid hts
  by_cases hz : skC ps ts 0 = 0
  · obtain ⟨v1, v2, v3, v4⟩ := skC_ok hz
    have H7 := Lib.hid (fun w h1 h2 => HDB w h1 h2 v1 v2)
    have H3 := Lib.hid (fun (k : Nat) w h1 h2 (h9 : k < 3) => rsingle_any a h ca ch ps ts (k : Int) w h1 h2 v1 v2 (by omega) (by omega))
    have HST := Lib.hid (fun (k : Nat) (h9 : k < 3) => rpF_step ps ts h9)
    have HDN := Lib.hid (show (dbO ps ts).isSome = false → dbL ps ts = [] from fun h => by unfold dbL; cases hq : dbO ps ts with | none => rfl | some y => rw [hq] at h; cases h)
    have H33 := Lib.hid (show rpF ps ts 3 = rp3 ps ts from rfl)
    rw [hz] at H1
    rw [hz, show rpQ ps ts = rpF ps ts 0 by unfold rpQ; rw [if_pos hz]]
    clear hz v1 v2 v3 v4 hp hts HDB
    obtain ⟨R, hR⟩ : ∃ R, R = rpF ps ts 0 := ⟨_, rfl⟩
    rw [← hR]
    have HRR := Lib.hid hR
    clear hR
    go_enter Tryz.func13, Tryz.ntmps13
    go_wp2_with fail
    refine (H1.out _ HP.out HT.out).mono ?_
    rintro e w1 ⟨rfl, hB⟩
    have HB4 := Lib.hid hB
    clear hB
    go_wp2_with fail
    go_loopw [9] (fun s9 wr => ∃ k : Nat, k ≤ 3 ∧ s9 = .int .i64 (k : Int) ∧ rpF ps ts k = R ∧ Below w.heap.size w wr) (fun s9 _ => 3 - (intOf s9).toNat)
    case atStart => exact ⟨0, by omega, rfl, HRR.out.symm, HB4.out⟩
    case round =>
      clear HB4 HRR
      obtain ⟨k, hk, rfl, hR, hB⟩ := hrel
      have HR := Lib.hid hR
      have HB := Lib.hid hB
      clear hR hB
      by_cases hlt : k < 3
      · have hlt1 : decide ((k : Int) < 3) = true := decide_eq_true (by omega)
        have HST1 := Lib.hid ((HST.out k hlt).symm.trans HR.out)
        have H31 := Lib.hid (fun w h1 h2 => H3.out k w h1 h2 hlt)
        clear HR H3 HST
        unfold rpS at HST1
        generalize smX ps ts (edL ps (k : Int)) = o at *
        cases o with
        | none =>
          rw [show (none : Option (E × Int)).isSome = false from rfl] at H31
          generalize bsE none = bb at *
          unfold eV at H31
          go_wp2_with fail
          refine (H31.out _ (HP.out.below HB.out (Nat.le_refl _)) (HT.out.below HB.out (Nat.le_refl _))).mono ?_
          rintro e w2 ⟨rfl, hB⟩
          have HB2 := Lib.hid ((HB.out.trans (hB.mono HB.out.size)).alloc (Nat.le_trans HB.out.size hB.size) (.cells #[.int .i64 bb.at_, .int .i64 bb.ln.op, .int .i64 bb.ln.to, .int .i64 bb.ln.a, .int .i64 bb.ln.b] 49))
          clear hB
          go_wp2_with fail
          go_roundw
          case rel => exact ⟨k + 1, by omega, by go_num, HST1.out, HB2.out⟩
          case measure => simp [intOf]; omega
        | some y =>
          rw [show (some y).isSome = true from rfl, show bsE (some y) = y.1 from rfl] at H31
          dsimp only at HST1
          generalize y.1 = bb at *
          unfold eV at H31
          go_wp2_with fail
          refine (H31.out _ (HP.out.below HB.out (Nat.le_refl _)) (HT.out.below HB.out (Nat.le_refl _))).mono ?_
          rintro e w2 ⟨rfl, hB⟩
          have HB2 := Lib.hid (((HB.out.trans (hB.mono HB.out.size)).alloc (Nat.le_trans HB.out.size hB.size) (.cells #[.int .i64 bb.at_, .int .i64 bb.ln.op, .int .i64 bb.ln.to, .int .i64 bb.ln.a, .int .i64 bb.ln.b] 49)).alloc (Nat.le_trans (Nat.le_trans HB.out.size hB.size) (by simp)) (.cells #[.int .i64 bb.at_, .int .i64 bb.ln.op, .int .i64 bb.ln.to, .int .i64 bb.ln.a, .int .i64 bb.ln.b] 49))
          have HE := Lib.hid (edit_at (w2.alloc (.cells #[.int .i64 bb.at_, .int .i64 bb.ln.op, .int .i64 bb.ln.to, .int .i64 bb.ln.a, .int .i64 bb.ln.b] 49)) 49 bb)
          clear hB
          go_wp2_with fail
          refine bodyPost_ret (results_tmp4 rfl _ _ _) rfl ?_
          rw [← HST1.out]
          exact ⟨_, _, rfl, by have h9 := HE.out; simp at h9; exact h9, HB2.out⟩
      · obtain rfl : k = 3 := by omega
        have hlt1 : decide (((3 : Nat) : Int) < 3) = false := decide_eq_false (by omega)
        rw [H33.out] at HR
        unfold rp3 at HR
        go_wp2_with fail
        refine (H7.out _ (HP.out.below HB.out (Nat.le_refl _)) (HT.out.below HB.out (Nat.le_refl _))).mono ?_
        rintro e w6 ⟨aq, cq, rfl, hq, hB⟩
        have HX := Lib.hid hq
        have HB6 := Lib.hid (HB.out.trans (hB.mono HB.out.size))
        clear hB hq
        generalize dbL ps ts = R1 at *
        cases hob : (dbO ps ts).isSome with
        | true =>
          rw [hob] at HR
          have HR2 := Lib.hid (show (R1, (3 : Int), true) = R from HR.out)
          clear HR hob
          go_wp2_with fail
          refine bodyPost_ret (results_tmp4 rfl _ _ _) rfl ?_
          rw [← HR2.out]
          exact ⟨_, _, rfl, HX.out, HB6.out⟩
        | false =>
          rw [hob] at HR
          have HR2 := Lib.hid (show (R1, (0 : Int), false) = R from HR.out)
          have hdb : R1 = [] := HDN.out hob
          clear HR hob
          subst hdb
          go_wp2_with fail
          refine bodyPost_ret (results_tmp4 rfl _ _ _) rfl ?_
          rw [← HR2.out]
          exact ⟨_, _, rfl, .inl rfl, HB6.out⟩
  · have y1 : (skC ps ts 0 != 0) = true := by simpa using hz
    rw [show rpQ ps ts = ([], 0, false) by unfold rpQ; rw [if_neg hz]]
    clear hz hp hts HDB
    generalize skC ps ts 0 = q at *
    go_enter Tryz.func13, Tryz.ntmps13
    go_wp2_with fail
    refine (H1.out _ HP.out HT.out).mono ?_
    rintro e w1 ⟨rfl, hB⟩
    have HB4 := Lib.hid hB
    clear hB
    go_wp2_with fail
    refine bodyPost_ret (results_tmp4 rfl _ _ _) rfl ?_
    exact ⟨_, _, rfl, .inl rfl, HB4.out⟩

end Go.Proofs.YtfclfmloceddfaaGreat
