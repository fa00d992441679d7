/- Good and minimal patches: contracts of failing, isGood, smallest, IsMinimal. -/
import Derived.Test.YtdcoebeffbkpnaaGreatPtG
import Derived.Test.YtdcoebeffbkpnaaGreatPtW
import Derived.Test.YtdcoebeffbkpnaaGreatPtD
import Derived.Test.YtdcoebeffbkpnaaGreatTells
set_option linter.unusedVariables false
set_option linter.unusedSimpArgs false
namespace Go.Proofs.YtdcoebeffbkpnaaGreat
open Go.RowKit Tinker

theorem doL_valid : ∀ (xs : List E) (ps : List L), (∀ l ∈ ps, isLn l = true) → (∀ e ∈ xs, isLn e.ln = true) → ∀ l ∈ doL ps xs, isLn l = true
  | [], _, h, _ => h
  | e :: xs, ps, h, h2 => by
    rw [doL_cons]
    refine doL_valid xs _ (fun l hl => ?_) (fun x hx => h2 x (List.mem_cons_of_mem _ hx))
    rcases List.mem_or_eq_of_mem_set hl with h3 | h3
    · exact h l h3
    · rw [h3]; exact h2 e (by simp)
theorem doL_vp {ps : List L} {xs : List E} (h : vp ps = 0) (h2 : ∀ e ∈ xs, isLn e.ln = true) : vp (doL ps xs) = 0 :=
  vp_ok' (by rw [doL_len]; exact (vp_ok h).1) (doL_valid xs ps (vp_ok h).2 h2)
/-- A program passes all tests after a patch. -/
def gdB (ps : List L) (ts : List T) (z : List E) : Bool := ts.all fun t => pas (doL ps z) t
theorem plc_nil {bs : List Bool} : (plc bs).length = 0 ↔ ∀ b ∈ bs, b = false := by
  unfold plc plcTo
  rw [List.length_map, List.length_eq_zero_iff, List.filter_eq_nil_iff]
  constructor
  · intro h b hb
    obtain ⟨j, hj⟩ := List.getElem?_of_mem hb
    have := h j (List.mem_range.2 (List.getElem?_eq_some_iff.1 hj).1)
    rw [getD_of_get hj] at this
    simpa using this
  · intro h a ha
    obtain ⟨b, hb⟩ := get_of_lt (List.mem_range.1 ha)
    rw [getD_of_get hb, h b (mem_of_get hb)]
    simp
/-- Conditions of a patch that can be done. -/
structure okX (ps : List L) (xs : List E) : Prop where
  v : vp ps = 0
  len : xs.length ≤ 4
  at_ : ∀ e ∈ xs, 0 ≤ e.at_ ∧ e.at_.toNat < ps.length
  ln : ∀ e ∈ xs, isLn e.ln = true
theorem okX_of {ps : List L} {xs : List E} {c : Int} (h : vpx ps xs c = 0) : okX ps xs := by
  obtain ⟨h1, h2, h3, h4⟩ := vpx_ok h
  obtain ⟨k1, k2, k3⟩ := vx_ok h2
  exact ⟨h1, k1, fun e he => ⟨(k3 e he).1.1, h4 e he⟩, fun e he => (k3 e he).2⟩
theorem okX.sub {ps : List L} {xs z : List E} (h : okX ps xs) (hs : z.Sublist xs) : okX ps z :=
  ⟨h.v, Nat.le_trans hs.length_le h.len, fun e he => h.at_ e (hs.subset he), fun e he => h.ln e (hs.subset he)⟩
theorem gd_fail {ps : List L} {ts : List T} {z : List E} (h : okX ps z) (ht : vts ts = 0) : decide ((((pL false (doL ps z) ts).length : Nat) : Int) = 0) = gdB ps ts z := by
  have hv : vpt (doL ps z) ts = 0 := by unfold vpt; rw [doL_vp h.v h.ln, ht]; rfl
  rw [pL_ok hv]
  unfold gdB
  rw [Bool.eq_iff_iff, decide_eq_true_eq, List.all_eq_true]
  have : (((plc (ts.map fun t => pas (doL ps z) t == false)).length : Nat) : Int) = 0 ↔ (plc (ts.map fun t => pas (doL ps z) t == false)).length = 0 := by omega
  rw [this, plc_nil]
  constructor
  · intro h t ht
    have := h _ (List.mem_map.2 ⟨t, ht, rfl⟩)
    simpa using this
  · intro h b hb
    obtain ⟨t, ht, rfl⟩ := List.mem_map.1 hb
    simpa using h t ht

theorem pfailing_any (a g : Option Addr) (ca cap : Nat) (ps : List L) (ts : List T) (w : World) (hp : LinesAt w a ps) (hts : TestsAt w g ts) (hm : ts.length ≤ 1000) (hml : ∀ t ∈ ts, t.inn.length ≤ 1000) :
    Calls Tryz.prog 91 #[.slice a ps.length ca, .slice g ts.length cap] w (GivesInts (pL false ps ts) w) := by
  have HF := Lib.hid (failing_any a g ca cap ps ts w hp hts hm hml)
  generalize pL false ps ts = zs at HF ⊢
  clear hp hts
  go_enter Tryz.func91, Tryz.ntmps91
  go_wp2_with fail
  refine HF.out.mono ?_
  rintro e w1 ⟨a1, c1, rfl, ho, hB⟩
  have HO := Lib.hid ho
  have HB := Lib.hid hB
  clear ho hB
  go_wp2_with fail
  go_ret
  exact ⟨a1, c1, rfl, HO.out, HB.out⟩

set_option maxRecDepth 100000 in
set_option maxHeartbeats 1000000 in
theorem pisGood_any (a g h : Option Addr) (ca cg ch : Nat) (ps : List L) (z : List E) (ts : List T) (w : World) (hp : LinesAt w a ps) (hx : EditsAt w g z) (hts : TestsAt w h ts) (hok : okX ps z) (ht : vts ts = 0) :
    Calls Tryz.prog 43 #[.slice a ps.length ca, .slice g z.length cg, .slice h ts.length ch] w fun e w' => e = .returned (.bool (gdB ps ts z)) ∧ Below w.heap.size w w' := by
  obtain ⟨t8, hT⟩ := vts_ok ht
  have hml : ∀ t ∈ ts, t.inn.length ≤ 1000 := fun t h => by have := (vs_ok (isT_ok (hT t h)).1).1; omega
  have HD := Lib.hid (pdo_any a g ca cg ps z w hp hx (vp_ok hok.v).1 hok.len hok.at_)
  have HF := Lib.hid (fun b c w h1 h2 => pfailing_any b h c ch (doL ps z) ts w h1 h2 (by omega) hml)
  have HE := Lib.hid (gd_fail (ts := ts) hok ht)
  rw [← HE.out]
  clear HE hp hx ht hT hml hok
  generalize doL ps z = qs at HD HF ⊢
  go_enter Tryz.func43, Tryz.ntmps43
  go_wp2_with fail
  refine HD.out.mono ?_
  rintro e w1 ⟨a1, c1, rfl, ho, hB⟩
  have HL := Lib.hid (lines_of_own ho).1
  have HB := Lib.hid hB
  clear ho hB
  go_wp2_with fail
  refine (HF.out _ _ _ HL.out (hts.below HB.out (Nat.le_refl _))).mono ?_
  rintro e w2 ⟨a2, c2, rfl, ho, hB⟩
  have HB2 := Lib.hid (HB.out.trans (hB.mono HB.out.size))
  clear ho hB
  go_wp2_with fail
  go_ret
  exact ⟨rfl, HB2.out⟩

theorem find_at {g : List E → Bool} {sp : List (List E)} {k : Nat} {z : List E} (ha : (sp.take k).all (fun z => !g z) = true) (hz : sp[k]? = some z) (hg : g z = true) : sp.find? g = some z := by
  obtain ⟨hk, rfl⟩ := List.getElem?_eq_some_iff.1 hz
  rw [List.find?_eq_some_iff_append]
  refine ⟨hg, sp.take k, sp.drop (k + 1), ?_, fun a h => List.all_eq_true.1 ha a h⟩
  rw [← List.drop_eq_getElem_cons hk, List.take_append_drop]
theorem find_no {g : List E → Bool} {sp : List (List E)} (ha : sp.all (fun z => !g z) = true) : sp.find? g = none := by
  rw [List.find?_eq_none]
  intro z hz
  have := List.all_eq_true.1 ha z hz
  simpa using this

/-- The smallest part, if there is one. -/
def GivesSm (o : Option (List E)) (w : World) (e : Ending) (w' : World) : Prop :=
  ∃ a c, e = .returned (.tuple #[.slice a (o.getD []).length c, .bool o.isSome]) ∧ EditsAt w' a (o.getD []) ∧ Below w.heap.size w w'
theorem okX_dist {ps : List L} {xs : List E} {c : Int} (h : vpx ps xs c = 0) : dist xs := dist_of (vx_ok (vpx_ok h).2.1).2.1

set_option maxRecDepth 100000 in
set_option maxHeartbeats 1000000 in
theorem psmallest_any (a g h : Option Addr) (ca cg ch : Nat) (ps : List L) (xs : List E) (ts : List T) (w : World) (hp : LinesAt w a ps) (hx : EditsAt w g xs) (hts : TestsAt w h ts) (hok : okX ps xs) (hd : dist xs) (ht : vts ts = 0) :
    Calls Tryz.prog 49 #[.slice a ps.length ca, .slice g xs.length cg, .slice h ts.length ch] w (GivesSm (smO (gdB ps ts) xs) w) := by
  have HP := Lib.hid (parts_any g cg xs w hx hok.len)
  have HG := Lib.hid (fun b c z w h1 h2 h3 (hz : z.Sublist xs) => pisGood_any a b h ca c ch ps z ts w h1 h2 h3 (hok.sub hz) ht)
  have HF := Lib.hid (fun (sp : List (List E)) (h1 : sp.Perm (ptL xs)) h2 => find_smF (g := gdB ps ts) hd (l := sp) (fun z => h1.mem_iff) h2)
  have HM := Lib.hid (fun (sp : List (List E)) (h1 : sp.Perm (ptL xs)) z (hz : z ∈ sp) => (ptL_mem xs z).1 (h1.mem_iff.1 hz))
  unfold smO
  generalize gdB ps ts = gd at HG HF ⊢
  have h16 := pt_len hok.len
  clear hok hd ht hx
  go_enter Tryz.func49, Tryz.ntmps49
  go_wp2_with fail
  refine HP.out.mono ?_
  rintro e w1 ⟨a1, c1, sp, rfl, hpm, hsr, hR, hB⟩
  have HR := Lib.hid hR
  have HB := Lib.hid hB
  have HFS := Lib.hid (HF.out sp hpm hsr)
  have HMS := Lib.hid (HM.out sp hpm)
  have hsl : sp.length ≤ 16 := by rw [hpm.length_eq]; exact h16
  clear hpm hsr hR hB HF HM HP h16
  go_wp2_with fail
  go_loopw [13] (fun s13 wr => ∃ k : Nat, k ≤ sp.length ∧ s13 = .int .i64 k ∧ (sp.take k).all (fun z => !gd z) = true ∧ RowsEAt wr a1 sp ∧ Below w.heap.size w wr) (fun s13 _ => sp.length - (intOf s13).toNat)
  case atStart => exact ⟨0, Nat.zero_le _, rfl, by simp, HR.out, HB.out⟩
  case round =>
    clear HR HB
    obtain ⟨k, hk, rfl, hall, hR, hB⟩ := hrel
    have HA := Lib.hid hall
    have HB := Lib.hid hB
    have HR := Lib.hid hR
    clear hall hB hR
    by_cases hlt : k < sp.length
    · obtain ⟨b, off, z, a', c', rfl, hlb, hz, x0, hE⟩ := HR.out.at_ hlt
      have HZ := Lib.hid hz
      have HE := Lib.hid hE
      have HG2 := Lib.hid (fun w h1 h2 h3 => HG.out a' c' z w h1 h2 h3 (HMS.out z (mem_of_get hz)))
      clear hz hE
      cases hg : gd z
      · have HNG := Lib.hid (show (!gd z) = true by rw [hg]; rfl)
        rw [hg] at HG2
        clear hg
        go_wp2_with fail
        refine (HG2.out _ (hp.below HB.out (Nat.le_refl _)) HE.out (hts.below HB.out (Nat.le_refl _))).mono ?_
        rintro e w2 ⟨rfl, hB2⟩
        have HR2 := Lib.hid (HR.out.below hB2 (Nat.le_refl _))
        have HB2 := Lib.hid (HB.out.trans (hB2.mono HB.out.size))
        clear hB2 x0
        go_wp2_with fail
        go_roundw
        case rel => exact ⟨k + 1, by omega, by go_num, all_snoc HA.out HZ.out HNG.out, HR2.out, HB2.out⟩
        case measure => simp [intOf]; omega
      · have HFD := Lib.hid (find_at HA.out HZ.out hg)
        rw [hg] at HG2
        clear hg
        go_wp2_with fail
        refine (HG2.out _ (hp.below HB.out (Nat.le_refl _)) HE.out (hts.below HB.out (Nat.le_refl _))).mono ?_
        rintro e w2 ⟨rfl, hB2⟩
        have HE2 := Lib.hid (HE.out.below hB2 (Nat.le_refl _))
        have HB2 := Lib.hid (HB.out.trans (hB2.mono HB.out.size))
        clear hB2 x0
        go_wp2_with fail
        go_ret2
        rw [← HFS.out, HFD.out]
        exact ⟨a', c', rfl, HE2.out, HB2.out⟩
    · have HFD := Lib.hid (find_no (all_whole HA.out hlt))
      go_wp2_with fail
      go_ret2
      rw [← HFS.out, HFD.out]
      exact ⟨none, 0, rfl, .inl rfl, HB.out⟩

/-- What IsMinimal answers. -/
def mnR (ps : List L) (xs : List E) (ts : List T) : Bool := if vpx ps xs (vts ts) = 0 then mnC (gdB ps ts) xs else false

set_option maxRecDepth 100000 in
set_option maxHeartbeats 1000000 in
theorem pIsMinimal_any (a g h : Option Addr) (ca cg ch : Nat) (ps : List L) (xs : List E) (ts : List T) (w : World) (hp : LinesAt w a ps) (hx : EditsAt w g xs) (hts : TestsAt w h ts) (hm : xs.length ≤ 1000) (hm2 : ts.length ≤ 1000) (hml : ∀ t ∈ ts, t.inn.length ≤ 1000) (hpl : ps.length ≤ 1000) :
    Calls Tryz.prog 40 #[.slice a ps.length ca, .slice g xs.length cg, .slice h ts.length ch] w fun e w' => e = .returned (.tuple #[.bool (mnR ps xs ts), .int .i64 (vpx ps xs (vts ts))]) ∧ Below w.heap.size w w' := by
  have HV := Lib.hid (pvalidate_any a g h ca cg ch ps xs ts w hp hx hts hm hm2 hml hpl)
  by_cases hz : vpx ps xs (vts ts) = 0
  · have HS := Lib.hid (fun w h1 h2 h3 => psmallest_any a g h ca cg ch ps xs ts w h1 h2 h3 (okX_of hz) (okX_dist hz) (vpx_ok hz).2.2.1)
    have HE := Lib.hid (show mnR ps xs ts = mnC (gdB ps ts) xs by unfold mnR; rw [if_pos hz])
    rw [HE.out, hz]
    rw [hz] at HV
    have HX := Lib.hid (show mnC (gdB ps ts) xs = match smO (gdB ps ts) xs with | none => false | some z => z.length == xs.length from rfl)
    generalize mnC (gdB ps ts) xs = r at HX ⊢
    generalize smO (gdB ps ts) xs = o at HS HX
    clear hz HE
    cases o with
    | none =>
      have HX2 := Lib.hid (show r = false from HX.out)
      clear HX
      go_enter Tryz.func40, Tryz.ntmps40
      go_wp2_with fail
      refine HV.out.mono ?_
      rintro e w1 ⟨rfl, hB⟩
      have HB := Lib.hid hB
      clear hB
      go_wp2_with fail
      refine (HS.out _ (hp.below HB.out (Nat.le_refl _)) (hx.below HB.out (Nat.le_refl _)) (hts.below HB.out (Nat.le_refl _))).mono ?_
      rintro e w2 ⟨a2, c2, rfl, hE, hB⟩
      have HB2 := Lib.hid (HB.out.trans (hB.mono HB.out.size))
      clear hE hB
      simp only [Option.isSome, Option.getD]
      go_wp2_with fail
      go_ret2
      exact ⟨by rw [HX2.out]; rfl, HB2.out⟩
    | some z =>
      have HX2 := Lib.hid (show r = (z.length == xs.length) from HX.out)
      clear HX
      by_cases hq : z.length = xs.length
      · have hq1 : (((z.length : Nat) : Int) == ((xs.length : Nat) : Int)) = true := by rw [hq]; simp
        have HR := Lib.hid (show r = true by rw [HX2.out]; simpa using hq)
        clear hq HX2
        go_enter Tryz.func40, Tryz.ntmps40
        go_wp2_with fail
        refine HV.out.mono ?_
        rintro e w1 ⟨rfl, hB⟩
        have HB := Lib.hid hB
        clear hB
        go_wp2_with fail
        refine (HS.out _ (hp.below HB.out (Nat.le_refl _)) (hx.below HB.out (Nat.le_refl _)) (hts.below HB.out (Nat.le_refl _))).mono ?_
        rintro e w2 ⟨a2, c2, rfl, hE, hB⟩
        have HB2 := Lib.hid (HB.out.trans (hB.mono HB.out.size))
        clear hE hB
        simp only [Option.isSome, Option.getD]
        go_wp2_with fail
        go_ret2
        exact ⟨by rw [HR.out]; rfl, HB2.out⟩
      · have hq1 : (((z.length : Nat) : Int) == ((xs.length : Nat) : Int)) = false := beq_eq_false_iff_ne.2 (by omega)
        have HR := Lib.hid (show r = false by rw [HX2.out]; simpa using hq)
        clear hq HX2
        go_enter Tryz.func40, Tryz.ntmps40
        go_wp2_with fail
        refine HV.out.mono ?_
        rintro e w1 ⟨rfl, hB⟩
        have HB := Lib.hid hB
        clear hB
        go_wp2_with fail
        refine (HS.out _ (hp.below HB.out (Nat.le_refl _)) (hx.below HB.out (Nat.le_refl _)) (hts.below HB.out (Nat.le_refl _))).mono ?_
        rintro e w2 ⟨a2, c2, rfl, hE, hB⟩
        have HB2 := Lib.hid (HB.out.trans (hB.mono HB.out.size))
        clear hE hB
        simp only [Option.isSome, Option.getD]
        go_wp2_with fail
        go_ret2
        exact ⟨by rw [HR.out]; rfl, HB2.out⟩
  · have HE := Lib.hid (show mnR ps xs ts = false by unfold mnR; rw [if_neg hz])
    rw [HE.out]
    generalize vpx ps xs (vts ts) = c at HV hz ⊢
    have hz1 : (c != 0) = true := by simpa using hz
    have hz2 : (c == 0) = false := by simpa using hz
    clear hz HE
    go_enter Tryz.func40, Tryz.ntmps40
    go_wp2_with fail
    refine HV.out.mono ?_
    rintro e w1 ⟨rfl, hB⟩
    have HB := Lib.hid hB
    clear hB
    go_wp2_with fail
    go_ret2
    exact ⟨rfl, HB.out⟩

end Go.Proofs.YtdcoebeffbkpnaaGreat
