/- Several texts in one. -/
import Derived.Test.YtigaklppdlknkaaMpD
import Derived.Test.YtigaklppdlknkaaEdO
import Derived.Test.YtigaklppdlknkaaRv4
import Derived.Test.YtigaklppdlknkaaPtY
import Derived.BigQuiet
/- Touches and Keep of patches: plain mathematics, the code's contracts. -/
set_option linter.unusedVariables false
set_option linter.unusedSimpArgs false
namespace Go.Proofs.Ytigaklppdlknkaa
open Go.RowKit Go.Maps Tinker

/-- The places that a patch touches. -/
def tcR (xs : List E) : List Int := if vx xs = 0 then pl xs else []
/-- What a call hands over: numbers, and a code. -/
def HandsI (zs : List Int) (c : Int) (w : World) (e : Ending) (w' : World) : Prop :=
  ∃ a cap, e = .returned (.tuple #[.slice a zs.length cap, .int .i64 c]) ∧ IntsAt w' a zs ∧ Below w.heap.size w w'
/-- The edits at places, what Keep answers. -/
def kpF (xs : List E) (zs : List Int) (i : Int) : Option L := if i ∈ zs then atX xs i else none
def kpL (xs : List E) (zs : List Int) : List E := xs.filter fun e => zs.contains e.at_
def kpC (xs : List E) (zs : List Int) : Int := if vx xs = 0 then (if isSetB zs && allBtw zs 0 7 then 0 else 1) else vx xs
def kpR (xs : List E) (zs : List Int) : List E := if kpC xs zs = 0 then kpL xs zs else []
theorem kp_1 {xs : List E} {zs : List Int} (h : vx xs ≠ 0) : kpC xs zs = vx xs ∧ kpR xs zs = [] := by
  have : kpC xs zs = vx xs := by unfold kpC; rw [if_neg h]
  exact ⟨this, by unfold kpR; rw [this, if_neg h]⟩
theorem kp_2 {xs : List E} {zs : List Int} (h : vx xs = 0) (h2 : (isSetB zs && allBtw zs 0 7) = false) : kpC xs zs = 1 ∧ kpR xs zs = [] := by
  have : kpC xs zs = 1 := by unfold kpC; rw [if_pos h, h2]; rfl
  exact ⟨this, by unfold kpR; rw [this, if_neg (by decide)]⟩
theorem kp_0 {xs : List E} {zs : List Int} (h : vx xs = 0) (h2 : (isSetB zs && allBtw zs 0 7) = true) : kpC xs zs = 0 ∧ kpR xs zs = kpL xs zs := by
  have : kpC xs zs = 0 := by unfold kpC; rw [if_pos h, h2]; rfl
  exact ⟨this, by unfold kpR; rw [this, if_pos rfl]⟩
theorem kp_len (xs : List E) (zs : List Int) : (kpR xs zs).length ≤ xs.length := by
  unfold kpR
  split
  · unfold kpL; exact List.length_filter_le _ _
  · simp
theorem kpL_mpL {xs : List E} {zs : List Int} (h : vx xs = 0) : mpL (kpF xs zs) = kpL xs zs := by
  obtain ⟨h1, h2, h3⟩ := vx_ok h
  have hd := dist_of h2
  refine ext_dist (mpL_dist _) (by unfold kpL; exact List.Pairwise.filter _ hd) fun e => ?_
  rw [mpL_mem]
  unfold kpL kpF
  rw [List.mem_filter, List.contains_iff_mem]
  constructor
  · rintro ⟨_, h4⟩
    by_cases hm : e.at_ ∈ zs
    · rw [if_pos hm] at h4
      obtain ⟨z, hz, h5, h6⟩ := atX_some h4
      have : z = e := by cases z; cases e; simp_all
      exact ⟨this ▸ hz, hm⟩
    · rw [if_neg hm] at h4; cases h4
  · rintro ⟨h4, hm⟩
    exact ⟨(h3 e h4).1, by rw [if_pos hm]; exact atX_mem hd h4⟩
theorem kp_all {xs : List E} (h : vx xs = 0) : kpC xs (pl xs) = 0 ∧ kpR xs (pl xs) = xs := by
  obtain ⟨h1, h2, h3⟩ := vx_ok h
  have hb : allBtw (pl xs) 0 7 = true := allBtw_of fun n hn => by obtain ⟨e, he, rfl⟩ := List.mem_map.1 hn; exact (h3 e he).1
  obtain ⟨e1, e2⟩ := kp_0 (zs := pl xs) h (by rw [h2, hb]; rfl)
  refine ⟨e1, ?_⟩
  rw [e2]
  unfold kpL
  rw [List.filter_eq_self]
  intro e he
  rw [List.contains_iff_mem]
  exact List.mem_map.2 ⟨e, he, rfl⟩
theorem kpF_step {xs : List E} {zs : List Int} {k : Nat} {z : Int} (h : zs[k]? = some z) (j : Int) : kpF xs (zs.take (k + 1)) j = if z = j then atX xs z else kpF xs (zs.take k) j := by
  unfold kpF
  rw [List.take_add_one, h]
  by_cases hzj : z = j
  · subst hzj
    rw [if_pos rfl, if_pos (by simp)]
  · rw [if_neg hzj]
    have : (j ∈ zs.take k ++ (some z).toList) ↔ j ∈ zs.take k := by simp; exact fun h => absurd h.symm hzj
    simp only [this]
theorem kpF_no {xs : List E} {zs : List Int} {k : Nat} {z : Int} (h : zs[k]? = some z) (hn : atX xs z = none) : kpF xs (zs.take (k + 1)) = kpF xs (zs.take k) := by
  funext j
  rw [kpF_step h]
  by_cases hzj : z = j
  · rw [if_pos hzj, hn]
    subst hzj
    unfold kpF
    rw [hn]
    split <;> rfl
  · rw [if_neg hzj]

/-- A store at the operation; what other maps there are stands. -/
theorem wpList_store_line2 {w : World} {ops : Array Oper} {rest : List Oper} {o : Oper} {a : Act} {Q : Exit → Act → World → Prop} (hg : o.guard = none) (m x v : Operand) (hop : o.op = Op.mapUpdate 113 m x v)
    (b : Nat) (f : Int → Option L) (hm : a.eval m = .map (some b)) (hM : MapI w b f) (i : Int) (h0 : 0 ≤ i) (h7 : i ≤ 7) (hx : a.eval x = .int .i64 i) (l : L) (hv : a.eval v = lv l) (f' : Int → Option L) (hf : ∀ j, f' j = if i = j then some l else f j) (B : Nat) (w0 : World) (hB : Below B w0 w) (hb : B ≤ b)
    (hK : ∀ w', MapI w' b f' → Below B w0 w' → (∀ g f2, g ≠ b → MapI w g f2 → MapI w' g f2) → wpList Try.prog ops Q rest (a.put o.dst undef) w') : wpList Try.prog ops Q (o :: rest) a w := by
  obtain ⟨D, n, h1, h2, h3, h4⟩ := hM
  have hT := h1.tidy lawI
  have hn : Maps.size D ≤ 8 := by rw [h4]; exact cnt8_le f
  obtain ⟨h5, h6⟩ := h3 i h0 h7
  refine wpList_mapUpdate_own w hg m x v 113 hop 3 40 lawI Try.underlying113 rV b n D hm h1 (by unfold maxLen; omega) (.int .i64 i) (lv l) (kI i) hx hv (keyI h0 h7) (.held (lv l)) [] rfl ?_
  intro w' h7' h8
  have hsz : Maps.size (D.put (kI i) (.held (lv l))) = cnt8 f' := by
    rw [size_put hT, h6, h4, cnt8_put hf h0 h7]
  refine hK w' ?_ ⟨h8.os.trans hB.os, h8.tape.trans hB.tape, h8.output.trans hB.output, Nat.le_trans hB.size h8.size, fun k hk => (h8.block k (Nat.lt_of_lt_of_le hk (Nat.le_trans hb (Nat.le_of_lt h1.lt))) (by intro e; injection e with e; omega)).trans (hB.block k hk)⟩ (fun g f2 hgb hG => ?_)
  · refine ⟨_, _, own_tight h7', by rw [hsz]; have := cnt8_le f'; omega, fun j j0 j7 => ?_, hsz⟩
    rw [hf j]
    by_cases hij : i = j
    · subst hij
      rw [if_pos rfl]
      exact ⟨atKey_put_same hT.isMap (show WideAt.IsKeyLit (kI i) from trivial) _ _, has_put_same hT.isMap (show WideAt.IsKeyLit (kI i) from trivial) _⟩
    · rw [if_neg hij]
      have hne : kI j ≠ kI i := kI_ne (fun e => hij e.symm)
      obtain ⟨q1, q2⟩ := h3 j j0 j7
      exact ⟨(atKey_put_other hne _ _).trans q1, (has_put_other hne _).trans q2⟩
  · obtain ⟨D2, m2, q1, q2, q3, q4⟩ := hG
    exact ⟨D2, m2, q1.kept (row := some b) h8 (by intro e; injection e with e; exact hgb e), q2, q3, q4⟩

set_option maxRecDepth 100000 in
set_option maxHeartbeats 1000000 in
theorem pTouches_any (a : Option Addr) (ca : Nat) (xs : List E) (w : World) (hx : EditsAt w a xs) (hm : xs.length ≤ 1000) :
    Calls Try.prog 41 #[.slice a xs.length ca] w (HandsI (tcR xs) (vx xs) w) := by
  have H1 := Lib.hid (fun w hx => pValidate_any a ca xs w hx hm)
  by_cases hz : vx xs = 0
  · have h4 := (vx_ok hz).1
    have HP := Lib.hid (fun w hx => pPlaces_any a ca xs w hx h4)
    have HE := Lib.hid (show tcR xs = pl xs by unfold tcR; rw [if_pos hz])
    have HL := Lib.hid (show xs.length = (pl xs).length by unfold pl; rw [List.length_map])
    rw [HE.out, hz]
    rw [hz] at H1
    clear hz HE
    go_enter Try.func41, Try.ntmps41
    go_wp2_with fail
    refine (H1.out _ hx).mono ?_
    rintro e w1 ⟨rfl, hB⟩
    have HB := Lib.hid hB
    clear hB
    go_wp2_with fail
    refine (HP.out _ (hx.below HB.out (Nat.le_refl _))).mono ?_
    rintro e w2 ⟨rfl, hI, _⟩
    have HI := Lib.hid hI.ints
    have HB2 := Lib.hid (HB.out.trans (hI.below.mono HB.out.size))
    clear hI
    go_wp2_with fail
    go_ret2
    exact ⟨_, _, by rw [← HL.out]; rfl, HI.out, HB2.out⟩
  · have HE := Lib.hid (show tcR xs = [] by unfold tcR; rw [if_neg hz])
    rw [HE.out]
    have hz1 : (vx xs != 0) = true := by simpa using hz
    clear hz HE
    generalize vx xs = c at H1 hz1 ⊢
    go_enter Try.func41, Try.ntmps41
    go_wp2_with fail
    refine (H1.out _ hx).mono ?_
    rintro e w1 ⟨rfl, hB⟩
    have HB := Lib.hid hB
    clear hB
    go_wp2_with fail
    go_ret2
    exact ⟨none, 0, rfl, .inl rfl, HB.out⟩

set_option maxRecDepth 100000 in
set_option maxHeartbeats 2000000 in
theorem pKeep_any (a g : Option Addr) (ca cg : Nat) (xs : List E) (zs : List Int) (w : World) (hx : EditsAt w a xs) (hy : IntsAt w g zs) (hm : xs.length ≤ 1000) (hn : zs.length ≤ 1000) :
    Calls Try.prog 39 #[.slice a xs.length ca, .slice g zs.length cg] w (GivesEditsE (kpR xs zs) (kpC xs zs) w) := by
  have hmm := @run_makeMap Try.prog
  have H1 := Lib.hid (fun w hx => pValidate_any a ca xs w hx hm)
  have H2 := Lib.hid (fun w hy => kIsSet_any g cg zs w hy hn)
  have H3 := Lib.hid (fun w hy => areBetween_any g cg zs 0 7 w hy (by omega))
  have HX := Lib.hid hx
  have HY := Lib.hid hy
  by_cases hz : vx xs = 0
  · rw [hz] at H1
    cases hs : isSetB zs
    · obtain ⟨e1, e2⟩ := kp_2 (zs := zs) hz (by rw [hs]; rfl)
      rw [e1, e2]
      rw [hs] at H2
      clear hx hy hs hz e1 e2 H3 hmm
      go_enter Try.func39, Try.ntmps39
      go_wp2_with fail
      refine (H1.out _ HX.out).mono ?_
      rintro e w1 ⟨rfl, hB⟩
      have HB := Lib.hid hB
      clear hB
      go_wp2_with fail
      refine (H2.out _ (HY.out.below HB.out (Nat.le_refl _))).mono ?_
      rintro e w2 ⟨rfl, hB⟩
      have HB2 := Lib.hid (HB.out.trans (hB.mono HB.out.size))
      clear hB
      go_wp2_with fail
      go_ret2
      exact givesEditsE_nil HB2.out
    · rw [hs] at H2
      cases hb : allBtw zs 0 7
      · obtain ⟨e1, e2⟩ := kp_2 (zs := zs) hz (by rw [hs, hb]; rfl)
        rw [e1, e2]
        rw [hb] at H3
        clear hx hy hs hz e1 e2 hb hmm
        go_enter Try.func39, Try.ntmps39
        go_wp2_with fail
        refine (H1.out _ HX.out).mono ?_
        rintro e w1 ⟨rfl, hB⟩
        have HB := Lib.hid hB
        clear hB
        go_wp2_with fail
        refine (H2.out _ (HY.out.below HB.out (Nat.le_refl _))).mono ?_
        rintro e w2 ⟨rfl, hB⟩
        have HB2 := Lib.hid (HB.out.trans (hB.mono HB.out.size))
        clear hB
        go_wp2_with fail
        refine (H3.out _ (HY.out.below HB2.out (Nat.le_refl _))).mono ?_
        rintro e w3 ⟨rfl, rfl⟩
        go_wp2_with fail
        go_ret2
        exact givesEditsE_nil HB2.out
      · obtain ⟨e1, e2⟩ := kp_0 (zs := zs) hz (by rw [hs, hb]; rfl)
        have HBT := Lib.hid (fun z (h : z ∈ zs) => allBtw_at hb h)
        have HRE := Lib.hid e2
        have sx := smallX_of hz
        have HMP := Lib.hid (kpL_mpL (zs := zs) hz)
        have HLA := Lib.hid (show lastX xs = atX xs from by
          funext i
          unfold lastX
          have hd := dist_of (vx_ok hz).2.1
          cases h : atX xs i with
          | none =>
            cases h2 : atX xs.reverse i with
            | none => rfl
            | some l =>
              obtain ⟨e, he, h3, h4⟩ := atX_some h2
              have := atX_mem hd (List.mem_reverse.1 he)
              rw [h3, h] at this
              cases this
          | some l =>
            obtain ⟨e, he, h3, h4⟩ := atX_some h
            cases h2 : atX xs.reverse i with
            | none =>
              exfalso
              have : (xs.reverse.find? fun e => e.at_ == i) = none := by unfold atX at h2; simpa using h2
              have := List.find?_eq_none.1 this e (List.mem_reverse.2 he)
              simp [h3] at this
            | some l2 =>
              obtain ⟨e2, he2, h5, h6⟩ := atX_some h2
              rw [← h4, ← h6, at_inj hd he (List.mem_reverse.1 he2) (by rw [h3, h5])])
        have HEO := Lib.hid (fun (W : World) (h : EditsAt W a xs) => show Calls Try.prog 90 #[.slice (some ⟨W.heap.size, 0, none⟩) 1 1] (W.alloc (.cells #[.slice a xs.length ca] 33)) (fun e w' => ∃ b, e = .returned (.map (some b)) ∧ W.heap.size ≤ b ∧ MapI w' b (atX xs) ∧ Below W.heap.size W w') from by
          have hE := editsOf_any (some ⟨W.heap.size, 0, none⟩) 1 [xs] _ (eRows_one (ca := ca) h) (by simp) (by intro z hz; simp at hz; subst hz; exact sx.1) (by intro z hz; simp at hz; subst hz; exact sx.2)
          rw [show ([xs] : List (List E)).flatten = xs by simp, HLA.out] at hE
          have hal : Below W.heap.size W (W.alloc (.cells #[.slice a xs.length ca] 33)) := (Below.refl _ _).alloc (Nat.le_refl _) _
          exact hE.mono (fun e w' h => ⟨_, h.1, hal.size, h.2.1, hal.trans (h.2.2.mono hal.size)⟩))
        rw [e1]
        rw [hb] at H3
        clear hx hy hs hz e1 e2 hb sx HLA
        go_enter Try.func39, Try.ntmps39
        go_wp2_with fail
        refine (H1.out _ HX.out).mono ?_
        rintro e w1 ⟨rfl, hB⟩
        have HB := Lib.hid hB
        clear hB
        go_wp2_with fail
        refine (H2.out _ (HY.out.below HB.out (Nat.le_refl _))).mono ?_
        rintro e w2 ⟨rfl, hB⟩
        have HB2 := Lib.hid (HB.out.trans (hB.mono HB.out.size))
        clear hB
        go_wp2_with fail
        refine (H3.out _ (HY.out.below HB2.out (Nat.le_refl _))).mono ?_
        rintro e w3 ⟨rfl, rfl⟩
        go_wp2_with fail
        refine (HEO.out _ (HX.out.below HB2.out (Nat.le_refl _))).mono ?_
        rintro e w4 ⟨b, rfl, hbl, hM, hB⟩
        have HB4 := Lib.hid (HB2.out.trans (hB.mono HB2.out.size))
        have HM := Lib.hid (hM.low ((Below.refl w4.heap.size w4).alloc (Nat.le_refl _) (.map #[] 0)))
        have HK0 := Lib.hid (MapI.new w4)
        have HB5 := Lib.hid (HB4.out.alloc HB4.out.size (.map #[] 0))
        have hbl4 : b < w4.heap.size := hM.lt
        have HLW := Lib.hid HB4.out.size
        clear hB hM hbl HEO H1 H2 H3 HB HB2
        go_wp2_with fail
        clear hmm
        go_loopw [32] (fun s32 wr => ∃ k : Nat, k ≤ zs.length ∧ s32 = .int .i64 k ∧ MapI wr b (atX xs) ∧ MapI wr w4.heap.size (kpF xs (zs.take k)) ∧ Below w.heap.size w wr) (fun s32 _ => zs.length - (intOf s32).toNat)
        case atStart => exact ⟨0, Nat.zero_le _, rfl, HM.out, HK0.out, HB5.out⟩
        case round =>
          clear HM HK0 HB5
          obtain ⟨k, hk, rfl, hM, hK, hB⟩ := hrel
          by_cases hlt : k < zs.length
          · obtain ⟨b2, off2, z, rfl, hlb2, hzk, c0⟩ := (HY.out.below hB (Nat.le_refl _)).at_ hlt
            obtain ⟨a0, a7⟩ := HBT.out z (mem_of_get hzk)
            have HM := Lib.hid hM
            have HKK := Lib.hid hK
            have HB := Lib.hid hB
            have hne : b ≠ w4.heap.size := by omega
            clear hM hK hB
            cases hf : atX xs z with
            | none =>
              have HF := Lib.hid (kpF_no (xs := xs) hzk hf)
              have hal : Below wr.heap.size wr (wr.alloc (.cells #[.int .i64 0, .int .i64 0, .int .i64 0, .int .i64 0] 40)) := (Below.refl _ _).alloc (Nat.le_refl _) _
              have HM2 := Lib.hid (HM.out.low hal)
              have HK2 := Lib.hid (HKK.out.low hal)
              have HB2 := Lib.hid (HB.out.trans (hal.mono HB.out.size))
              clear hal
              go_wp2_with (at_lookup; refine wpList_look_line rfl _ _ rfl b (atX xs) rfl HM.out z a0 a7 rfl none hf ?_; rw [fV_none])
              go_roundw
              case rel => exact ⟨k + 1, by omega, by go_num, HM2.out, by rw [HF.out]; exact HK2.out, HB2.out⟩
              case measure => simp [intOf]; omega
            | some l =>
              have HST := Lib.hid (show ∀ j, kpF xs (zs.take (k + 1)) j = if z = j then some l else kpF xs (zs.take k) j from fun j => by rw [kpF_step hzk, hf])
              have hal : Below wr.heap.size wr (wr.alloc (.cells #[.int .i64 l.op, .int .i64 l.to, .int .i64 l.a, .int .i64 l.b] 40)) := (Below.refl _ _).alloc (Nat.le_refl _) _
              have HM2 := Lib.hid (HM.out.low hal)
              have HK2 := Lib.hid (HKK.out.low hal)
              have HB2 := Lib.hid (HB.out.trans (hal.mono HB.out.size))
              clear hal
              go_wp2_with (first | (at_lookup; refine wpList_look_line rfl _ _ rfl b (atX xs) rfl HM.out z a0 a7 rfl (some l) hf ?_; rw [fV_some]) | (at_mapUpdate; refine wpList_store_line2 rfl _ _ _ rfl w4.heap.size _ rfl HK2.out z a0 a7 rfl l rfl _ HST.out w.heap.size w HB2.out HLW.out ?_))
              intro w5 hK5 hB5 hO5
              have HK5 := Lib.hid hK5
              have HB5 := Lib.hid hB5
              have HM5 := Lib.hid (hO5 b _ hne HM2.out)
              clear hK5 hB5 hO5
              go_wp2_with fail
              go_roundw
              case rel => exact ⟨k + 1, by omega, by go_num, HM5.out, HK5.out, HB5.out⟩
              case measure => simp [intOf]; omega
          · obtain rfl : k = zs.length := by omega
            rw [List.take_length] at hK
            have HKK := Lib.hid (fun W (h : MapI W w4.heap.size (kpF xs zs)) => patchOf_any w4.heap.size (kpF xs zs) W h)
            have HK2 := Lib.hid hK
            have HB := Lib.hid hB
            rw [HMP.out, ← HRE.out] at HKK
            clear hK hB hM
            go_wp2_with fail
            refine (HKK.out _ HK2.out).mono ?_
            rintro ex w6 hG
            obtain ⟨v1, v2, rfl, ho, hB6⟩ := hG
            have HO := Lib.hid (own_mono ho HB.out.size)
            have HB6 := Lib.hid (HB.out.trans (hB6.mono HB.out.size))
            clear ho hB6
            go_wp2_with fail
            go_ret2
            exact ⟨v1, v2, rfl, HO.out, HB6.out⟩
  · obtain ⟨e1, e2⟩ := kp_1 (zs := zs) hz
    rw [e1, e2]
    have hz1 : (vx xs != 0) = true := by simpa using hz
    clear hz hx hy e1 e2 hmm
    generalize vx xs = c at H1 hz1 ⊢
    go_enter Try.func39, Try.ntmps39
    go_wp2_with fail
    refine (H1.out _ HX.out).mono ?_
    rintro e w1 ⟨rfl, hB⟩
    have HB := Lib.hid hB
    clear hB
    go_wp2_with fail
    go_ret2
    exact givesEditsE_nil HB.out

end Go.Proofs.Ytigaklppdlknkaa

/- Touches and Keep of the document's side (patches): contracts. -/
set_option linter.unusedVariables false
set_option linter.unusedSimpArgs false
namespace Go.Proofs.Ytigaklppdlknkaa
open Go.RowKit Tinker

theorem pl_step {xs : List E} {k : Nat} {e : E} (h : xs[k]? = some e) : pl (xs.take (k + 1)) = pl (xs.take k) ++ [e.at_] := by
  rw [List.take_add_one, h]
  unfold pl
  rw [List.map_append]
  rfl

set_option maxRecDepth 100000 in
set_option maxHeartbeats 1000000 in
theorem rTouches_any (a : Option Addr) (ca : Nat) (xs : List E) (w : World) (hx : EditsAt w a xs) (hm : xs.length ≤ 1000) :
    Calls Try.prog 42 #[.slice a xs.length ca] w (HandsI (tcR xs) (vx xs) w) := by
  obtain ⟨i0, hi, hz0, hz1, hz2⟩ := info_parts info_int
  have H1 := Lib.hid (fun w hx => rVal4_any a ca xs w hx hm)
  have HX := Lib.hid hx
  by_cases hz : vx xs = 0
  · have h4 := (vx_ok hz).1
    have HE := Lib.hid (show tcR xs = pl xs by unfold tcR; rw [if_pos hz])
    rw [HE.out, hz]
    rw [hz] at H1
    clear hz HE hx
    go_enter Try.func42, Try.ntmps42
    go_wp2_with fail
    refine (H1.out _ HX.out).mono ?_
    rintro e w1 ⟨rfl, hB⟩
    have HB := Lib.hid hB
    clear hB
    go_wp2_with fail
    go_loopw [5, 6] (fun s5 s6 wr => ∃ k : Nat, k ≤ xs.length ∧ s6 = .int .i64 k ∧ wr.ownsRow w.heap.size 3 1 s5 k ((pl (xs.take k)).map (Value.int .i64)) ∧ Below w.heap.size w wr) (fun _ s6 _ => xs.length - (intOf s6).toNat)
    case atStart => exact ⟨0, Nat.zero_le _, rfl, World.ownsRow_nil _ _ _ _, HB.out⟩
    case round =>
      clear HB
      obtain ⟨k, hk, rfl, hown, hB⟩ := hrel
      by_cases hlt : k < xs.length
      · obtain ⟨b, off, e, rfl, hlb, he, c0, c1, c2, c3, c4⟩ := (HX.out.below hB (Nat.le_refl _)).at_ hlt
        have HS := Lib.hid (pl_step he)
        clear he c1 c2 c3 c4
        go_wp2_with (at_builtin; refine wpList_append_own _ rfl (.tmp 18) (.tmp 24) 25 rfl w.heap.size 3 i0 (.int .i64 0) 1 8 Try.underlying25 hi hz0 hz1 hz2 rfl (by decide) _ _ _ rfl (hown.alloc _) ⟨wr.heap.size, 0, none⟩ 1 1 [.int .i64 e.at_] rfl rfl ?c1 ?c2 ?c3 ?c4 ?c5 ?_)
        case c1 => exact cell_one_new _ _ _
        case c2 => simp [Value.oneCell']
        case c3 => unfold maxLen; omega
        case c4 => omega
        case c5 => have := hB.size; simp; omega
        intro v' w1 hown' hgrow _
        have hB1 : Below w.heap.size w w1 := (hB.alloc hB.size _).grown hgrow (by have := hB.size; simp; omega) (own_base hown)
        have e2 : (pl (xs.take k)).map (Value.int .i64) ++ [.int .i64 e.at_] = (pl (xs.take (k + 1))).map (Value.int .i64) := by rw [HS.out]; simp
        rw [e2] at hown'
        have HO := Lib.hid hown'
        have HB1 := Lib.hid hB1
        clear hown hown' hgrow e2 hB1 hB c0
        go_wp2_with fail
        go_roundw
        case rel => exact ⟨k + 1, by omega, by go_num, HO.out, HB1.out⟩
        case measure => simp [intOf]; omega
      · obtain rfl : k = xs.length := by omega
        rw [List.take_length] at hown
        obtain ⟨va, vc, rfl⟩ := own_slice hown
        have HO := Lib.hid (ints_of_own hown)
        have HB := Lib.hid hB
        clear hown hB
        go_wp2_with fail
        go_ret2
        exact ⟨va, vc, by rw [HO.out.2]; rfl, HO.out.1, HB.out⟩
  · have HE := Lib.hid (show tcR xs = [] by unfold tcR; rw [if_neg hz])
    rw [HE.out]
    have hz1 : (vx xs != 0) = true := by simpa using hz
    clear hz HE hx
    generalize vx xs = c at H1 hz1 ⊢
    go_enter Try.func42, Try.ntmps42
    go_wp2_with fail
    refine (H1.out _ HX.out).mono ?_
    rintro e w1 ⟨rfl, hB⟩
    have HB := Lib.hid hB
    clear hB
    go_wp2_with fail
    go_ret2
    exact ⟨none, 0, rfl, .inl rfl, HB.out⟩

end Go.Proofs.Ytigaklppdlknkaa

/- Keep of the document's side (patches): contract. -/
set_option linter.unusedVariables false
set_option linter.unusedSimpArgs false
namespace Go.Proofs.Ytigaklppdlknkaa
open Go.RowKit Tinker

theorem below_drewN5 {B : Nat} {a w : World} (h : Below B a w) (n : Nat) : Below B a (w.drewN n) := h.trans ⟨rfl, rfl, rfl, Nat.le_refl _, fun _ _ => rfl⟩
/-- Which places are in a list. -/
def inA (zs : List Int) : Array Value := #[.bool (zs.contains 0), .bool (zs.contains 1), .bool (zs.contains 2), .bool (zs.contains 3), .bool (zs.contains 4), .bool (zs.contains 5), .bool (zs.contains 6), .bool (zs.contains 7)]
theorem inA_snoc (zs : List Int) (z : Int) (i : Int) : (zs ++ [z]).contains i = (zs.contains i || i == z) := by
  rw [Bool.eq_iff_iff]
  simp
/-- The first k places are as they must be. -/
def kpTo (zs : List Int) (k : Nat) : Prop := isSetB (zs.take k) = true ∧ (zs.take k).all (btw · 0 7) = true
theorem kpTo_step {zs : List Int} {k : Nat} {z : Int} (h : kpTo zs k) (hz : zs[k]? = some z) (h1 : 0 ≤ z) (h2 : z < 8) (h3 : ∀ q y, k = q + 1 → zs[q]? = some y → y < z) : kpTo zs (k + 1) := by
  have hk : k < zs.length := (List.getElem?_eq_some_iff.1 hz).1
  refine ⟨?_, all_snoc h.2 hz (btw_true.2 ⟨h1, by omega⟩)⟩
  rw [List.take_add_one, hz]
  refine set_snoc h.1 fun y hy => ?_
  rw [List.length_take, Nat.min_eq_left (by omega)] at hy
  cases k with
  | zero => simp at hy
  | succ q =>
    refine h3 q y rfl ?_
    rw [List.getElem?_take] at hy
    split at hy
    · simpa using hy
    · cases hy
theorem kp_bad {zs : List Int} {k : Nat} {z : Int} (hz : zs[k]? = some z) (h : z < 0 ∨ 8 ≤ z) : (isSetB zs && allBtw zs 0 7) = false := by
  cases hb : allBtw zs 0 7
  · rw [Bool.and_false]
  · have := allBtw_at hb (mem_of_get hz); omega
theorem kp_row {zs : List Int} {q : Nat} {y z : Int} (hy : zs[q]? = some y) (hz : zs[q + 1]? = some z) (h : z ≤ y) : (isSetB zs && allBtw zs 0 7) = false := by
  rw [isSetB_no hy hz h]; rfl
theorem kp_yes {xs : List E} {zs : List Int} {k : Nat} {e : E} (he : xs[k]? = some e) (h : zs.contains e.at_ = true) : kpL (xs.take (k + 1)) zs = kpL (xs.take k) zs ++ [e] := by
  unfold kpL
  rw [List.take_add_one, he, List.filter_append]
  show _ ++ [e].filter _ = _
  rw [List.filter_cons, h]
  rfl
theorem kp_no {xs : List E} {zs : List Int} {k : Nat} {e : E} (he : xs[k]? = some e) (h : zs.contains e.at_ = false) : kpL (xs.take (k + 1)) zs = kpL (xs.take k) zs := by
  unfold kpL
  rw [List.take_add_one, he, List.filter_append]
  show _ ++ [e].filter _ = _
  rw [List.filter_cons, h]
  show _ ++ [] = _
  rw [List.append_nil]
theorem kpL_len (xs : List E) (zs : List Int) : (kpL xs zs).length ≤ xs.length := by unfold kpL; exact List.length_filter_le _ _
theorem inA_get (zs : List Int) {z : Int} (h0 : 0 ≤ z) (h7 : z ≤ 7) : (inA zs)[z.toNat]? = some (.bool (zs.contains z)) := by
  have : z = 0 ∨ z = 1 ∨ z = 2 ∨ z = 3 ∨ z = 4 ∨ z = 5 ∨ z = 6 ∨ z = 7 := by omega
  rcases this with rfl | rfl | rfl | rfl | rfl | rfl | rfl | rfl <;> rfl
theorem inA_put {zs : List Int} {k : Nat} {z : Int} (hz : zs[k]? = some z) (h0 : 0 ≤ z) (h7 : z ≤ 7) : (inA (zs.take k)).setIfInBounds z.toNat (.bool true) = inA (zs.take (k + 1)) := by
  rw [List.take_add_one, hz]
  unfold inA
  simp only [Option.toList_some, inA_snoc]
  have : z = 0 ∨ z = 1 ∨ z = 2 ∨ z = 3 ∨ z = 4 ∨ z = 5 ∨ z = 6 ∨ z = 7 := by omega
  rcases this with rfl | rfl | rfl | rfl | rfl | rfl | rfl | rfl <;> simp

set_option maxRecDepth 100000 in
set_option maxHeartbeats 2000000 in
theorem rKeep_any (a g : Option Addr) (ca cg : Nat) (xs : List E) (zs : List Int) (w : World) (hx : EditsAt w a xs) (hy : IntsAt w g zs) (hm : xs.length ≤ 1000) (hn : zs.length ≤ 1000) :
    Calls Try.prog 40 #[.slice a xs.length ca, .slice g zs.length cg] w (GivesEditsE (kpR xs zs) (kpC xs zs) w) := by
  obtain ⟨i0, hi, hz0, hz1, hz2⟩ := info_parts info_edit
  have H1 := Lib.hid (fun w hx => rVal4_any a ca xs w hx hm)
  have HX := Lib.hid hx
  have HY := Lib.hid hy
  by_cases hz : vx xs = 0
  · have HZ := Lib.hid hz
    have h4 := (vx_ok hz).1
    have HBT := Lib.hid (fun e (h : e ∈ xs) => ((vx_ok hz).2.2 e h).1)
    rw [hz] at H1
    clear hz hx hy
    go_enter Try.func40, Try.ntmps40
    go_wp2_with fail
    refine (H1.out _ HX.out).mono ?_
    rintro e w1 ⟨rfl, hB⟩
    have HB := Lib.hid hB
    have HLW := Lib.hid hB.size
    clear hB
    go_wp2_with fail
    go_loopw [8] (fun s8 wr => ∃ k : Nat, k ≤ zs.length ∧ s8 = .int .i64 k ∧ kpTo zs k ∧ wr.heap[w1.heap.size]? = some (.cells (inA (zs.take k)) 117 (0, 0)) ∧ Below w.heap.size w wr) (fun s8 _ => zs.length - (intOf s8).toNat)
    case atStart => exact ⟨0, Nat.zero_le _, rfl, ⟨rfl, by simp⟩, heap_new _ _, HB.out.alloc HB.out.size _⟩
    case round =>
      clear HB
      obtain ⟨k, hk, rfl, hT, hbl, hB⟩ := hrel
      have HT := Lib.hid hT
      have HBL := Lib.hid hbl
      have HB := Lib.hid hB
      clear hT hbl
      by_cases hlt : k < zs.length
      · obtain ⟨b2, off2, z, rfl, hlb2, hzk, c0⟩ := (HY.out.below hB (Nat.le_refl _)).at_ hlt
        have HZK := Lib.hid hzk
        by_cases g0 : z < 0
        · obtain ⟨e1, e2⟩ := kp_2 (xs := xs) (zs := zs) HZ.out (kp_bad hzk (.inl g0))
          have HE := Lib.hid e1
          have HR := Lib.hid e2
          have d1 : decide (z < 0) = true := by simp; omega
          clear e1 e2 hzk hB
          go_wp2_with fail
          go_quiet (fail)
          go_wp2_with fail
          go_ret2
          rw [HE.out, HR.out]
          exact givesEditsE_nil (below_drewN5 HB.out _)
        · have d1 : decide (z < 0) = false := by simp; omega
          by_cases g8 : 8 ≤ z
          · obtain ⟨e1, e2⟩ := kp_2 (xs := xs) (zs := zs) HZ.out (kp_bad hzk (.inr g8))
            have HE := Lib.hid e1
            have HR := Lib.hid e2
            have d2 : decide (8 ≤ z) = true := by simp; omega
            clear e1 e2 hzk hB
            go_wp2_with fail
            go_quiet (fail)
            go_wp2_with fail
            go_ret2
            rw [HE.out, HR.out]
            exact givesEditsE_nil (below_drewN5 HB.out _)
          · have d2 : decide (8 ≤ z) = false := by simp; omega
            have q0 : 0 ≤ z := by omega
            have q7 : z ≤ 7 := by omega
            have q8 : z < 8 := by omega
            have HP := Lib.hid (inA_put hzk q0 q7)
            have hsz : (inA (zs.take k))[z.toNat]? = some (.bool ((zs.take k).contains z)) := inA_get _ q0 q7
            have M1 := Lib.hid (hp_cell HBL.out hsz)
            have M2 := Lib.hid (hp_free HBL.out z.toNat)
            have Q0 := Lib.hid q0
            have Q7 := Lib.hid q7
            have Q8 := Lib.hid q8
            clear hsz
            by_cases hk0 : k = 0
            · have d3 : decide ((0 : Int) < (k : Int)) = false := by simp; omega
              have d4 : decide (0 < k) = false := by simp; omega
              have HT2 := Lib.hid (kpTo_step HT.out hzk q0 q8 (fun q y hq => by omega))
              clear hzk hB q0 q7 q8 g0 g8 hk0
              go_wp2_with fail
              go_quiet (fail)
              have m1 := M1.out
              have m2 := M2.out
              have q0 := Q0.out
              have q8 := Q8.out
              go_wp2_with fail
              go_roundw
              case rel => exact ⟨k + 1, by omega, by go_num, HT2.out, by rw [← HP.out]; exact hp_put (w := wr.drewN _) HBL.out _ _, (below_drewN5 HB.out _).setCell (p := ⟨w1.heap.size, _, none⟩) HLW.out _⟩
              case measure => simp [intOf]; omega
            · obtain ⟨q, hq⟩ : ∃ q, k = q + 1 := ⟨k - 1, by omega⟩
              subst hq
              obtain ⟨y, hy⟩ := get_of_lt (show q < zs.length by omega)
              have y0 : wr.cell? ⟨b2, off2 + q, none⟩ = some (.int .i64 y) := by
                obtain ⟨b3, off3, y', h31, _, h32, h33⟩ := (HY.out.below hB (Nat.le_refl _)).at_ (show q < zs.length by omega)
                injection h31 with h31
                injection h31 with h34 h35
                subst h34 h35
                rw [hy] at h32
                injection h32 with h32
                rw [h32]
                exact h33
              have d3 : decide ((0 : Int) < (q : Int) + 1) = true := by rw [decide_eq_true_iff]; omega
              have d4 : decide (0 < q + 1) = true := by simp
              have d6 : decide ((0 : Int) < ((q + 1 : Nat) : Int)) = true := by rw [decide_eq_true_iff]; omega
              by_cases gy : z ≤ y
              · obtain ⟨e1, e2⟩ := kp_2 (xs := xs) (zs := zs) HZ.out (kp_row hy hzk gy)
                have HE := Lib.hid e1
                have HR := Lib.hid e2
                have d5 : decide (z ≤ y) = true := by simpa using gy
                clear e1 e2 hzk hB q0 q7 q8 g0 g8 hk0 hy gy
                go_wp2_with fail
                go_quiet (fail)
                go_wp2_with fail
                go_ret2
                rw [HE.out, HR.out]
                exact givesEditsE_nil (below_drewN5 HB.out _)
              · have d5 : decide (z ≤ y) = false := by simp; omega
                have HT2 := Lib.hid (kpTo_step HT.out hzk q0 q8 (fun q' y' hq hy' => by obtain rfl : q' = q := (by omega); have := Option.some.inj (hy.symm.trans hy'); omega))
                clear hzk hB q0 q7 q8 g0 g8 hk0 hy gy
                go_wp2_with fail
                go_quiet (fail)
                have m1 := M1.out
                have m2 := M2.out
                have q0 := Q0.out
                have q8 := Q8.out
                go_wp2_with fail
                go_roundw
                case rel => exact ⟨q + 1 + 1, by omega, by go_num, HT2.out, by rw [← HP.out]; exact hp_put (w := wr.drewN _) HBL.out _ _, (below_drewN5 HB.out _).setCell (p := ⟨w1.heap.size, _, none⟩) HLW.out _⟩
                case measure => simp [intOf]; omega
      · obtain rfl : k = zs.length := by omega
        rw [List.take_length] at HBL
        have hT := HT.out
        unfold kpTo at hT
        rw [List.take_length] at hT
        obtain ⟨e1, e2⟩ := kp_0 (xs := xs) (zs := zs) HZ.out (by rw [hT.1]; exact hT.2)
        have HE := Lib.hid e1
        have HR := Lib.hid e2
        clear hT e1 e2 hB HT
        go_wp2_with fail
        obtain ⟨W0, hW0⟩ : ∃ W, W = wr := ⟨_, rfl⟩
        subst hW0
        go_loopw [9, 10] (fun s9 s10 wx => ∃ j : Nat, j ≤ xs.length ∧ s10 = .int .i64 j ∧ wx.ownsRow W0.heap.size 96 5 s9 (kpL (xs.take j) zs).length (ec (kpL (xs.take j) zs)) ∧ Below W0.heap.size W0 wx) (fun _ s10 _ => xs.length - (intOf s10).toNat)
        case atStart => exact ⟨0, Nat.zero_le _, rfl, World.ownsRow_nil _ _ _ _, Below.refl _ _⟩
        case round =>
          obtain ⟨j, hj, rfl, hO, hBx⟩ := hrel
          have HO := Lib.hid hO
          have HBX := Lib.hid hBx
          have hkl := kpL_len (xs.take j) zs
          have hkl2 : (kpL (xs.take j) zs).length ≤ 4 := by rw [List.length_take] at hkl; omega
          clear hO hkl
          by_cases hjl : j < xs.length
          · obtain ⟨b, off, e, rfl, hlb, he, c0, c1, c2, c3, c4⟩ := (HX.out.below (HB.out.trans (hBx.mono HB.out.size)) (Nat.le_refl _)).at_ hjl
            obtain ⟨q0, q7⟩ := HBT.out e (mem_of_get he)
            have q8 : e.at_ < 8 := by omega
            have m1 := hp_cell (hp_below HBL.out HBX.out (hp_lt HBL.out)) (inA_get zs q0 q7)
            have HBW := Lib.hid (HB.out.trans (HBX.out.mono HB.out.size))
            clear hBx
            cases hc : zs.contains e.at_
            · have HS := Lib.hid (kp_no he hc)
              rw [hc] at m1
              clear hc he
              go_wp2_with fail
              go_roundw
              case rel => exact ⟨j + 1, by omega, by go_num, by rw [HS.out]; exact HO.out, HBX.out⟩
              case measure => simp [intOf]; omega
            · have HS := Lib.hid (kp_yes he hc)
              rw [hc] at m1
              clear hc he
              go_wp2_with (at_builtin; (refine wpList_append_own _ rfl (.tmp 68) (.tmp 73) 33 rfl W0.heap.size 96 i0 (.agg #[.int .i64 0, .int .i64 0, .int .i64 0, .int .i64 0, .int .i64 0]) 5 40 Try.underlying33 hi hz0 hz1 hz2 rfl (by decide) _ (kpL (xs.take j) zs).length (ec (kpL (xs.take j) zs)) rfl (own_below HO.out ((Below.refl _ _).alloc (Nat.le_refl _) _) (Nat.le_refl _)) _ 1 1 (ec [e]) rfl rfl ?c2 (ec_one _) ?c4 ?c5 ?c6 ?_))
              case c2 => exact cells_newE _ e
              case c4 => unfold maxLen; omega
              case c5 => omega
              case c6 => have := HBX.out.size; simp at this ⊢; omega
              intro v3 w3 hown3 hgrow3 _
              have HB3 := Lib.hid ((HBX.out.alloc HBX.out.size (.cells #[.int .i64 e.at_, .int .i64 e.ln.op, .int .i64 e.ln.to, .int .i64 e.ln.a, .int .i64 e.ln.b] 96)).grown hgrow3 (by have := HBX.out.size; simp at this ⊢; omega) (fun q hq => (HO.out.lt q hq).1))
              have HO3 := Lib.hid (show w3.ownsRow W0.heap.size 96 5 v3 (kpL (xs.take (j + 1)) zs).length (ec (kpL (xs.take (j + 1)) zs)) by rw [HS.out, ec_append, List.length_append, List.length_singleton]; exact hown3)
              clear hown3 hgrow3 m1 c0 c1 c2 c3 c4
              go_wp2_with fail
              go_roundw
              case rel => exact ⟨j + 1, by omega, by go_num, HO3.out, HB3.out⟩
              case measure => simp [intOf]; omega
          · obtain rfl : j = xs.length := by omega
            rw [List.take_length] at HO
            obtain ⟨va, vc, rfl⟩ := own_slice HO.out
            have HBW := Lib.hid (HB.out.trans (HBX.out.mono HB.out.size))
            clear hBx
            go_wp2_with fail
            go_ret2
            rw [HE.out, HR.out]
            exact ⟨va, vc, rfl, own_mono HO.out HB.out.size, HBW.out⟩
  · obtain ⟨e1, e2⟩ := kp_1 (zs := zs) hz
    rw [e1, e2]
    have hz1 : (vx xs != 0) = true := by simpa using hz
    clear hz hx hy e1 e2
    generalize vx xs = c at H1 hz1 ⊢
    go_enter Try.func40, Try.ntmps40
    go_wp2_with fail
    refine (H1.out _ HX.out).mono ?_
    rintro e w1 ⟨rfl, hB⟩
    have HB := Lib.hid hB
    clear hB
    go_wp2_with fail
    go_ret2
    exact givesEditsE_nil HB.out

end Go.Proofs.Ytigaklppdlknkaa
