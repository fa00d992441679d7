/- The document's Suspects and Rank: contracts. -/
import Derived.Test.YtndmjenfgggfbaaRkE
import Derived.Test.YtndmjenfgggfbaaSorted
set_option linter.unusedVariables false
set_option linter.unusedSimpArgs false
namespace Go.Proofs.Ytndmjenfgggfbaa
open Go.RowKit Tinker

theorem all_len : ∀ (n : Nat) (ns : List Nat), (∀ j, j < n → j ∈ ns) → n ≤ ns.length
  | 0, _, _ => Nat.zero_le _
  | n + 1, ns, h => by
    have hm := h n (by omega)
    have ih := all_len n (ns.erase n) (fun j hj => (List.mem_erase_of_ne (by omega)).2 (h j (by omega)))
    rw [List.length_erase_of_mem hm] at ih
    have : 0 < ns.length := List.length_pos_of_mem hm
    omega
theorem nodup_len : ∀ (n : Nat) (ns : List Nat), ns.Nodup → (∀ a ∈ ns, a < n) → ns.length ≤ n
  | 0, ns, _, h => by
    cases ns with
    | nil => simp
    | cons x t => have := h x (by simp); omega
  | n + 1, ns, hd, h => by
    have ih := nodup_len n (ns.erase n) (hd.erase n) (fun a ha => by
      have h1 := h a (List.mem_of_mem_erase ha)
      have h2 : a ≠ n := fun e => by subst e; exact (hd.not_mem_erase) ha
      omega)
    have := List.le_length_erase (l := ns) (a := n)
    omega

/-- So far none is above it. -/
def topTo (q : List (Int × Int)) (i k : Nat) : Bool := (List.range k).all fun j => !ltQ (q.getD i (0, 1)) (q.getD j (0, 1))
theorem topTo_succ (q : List (Int × Int)) (i k : Nat) : topTo q i (k + 1) = (topTo q i k && !ltQ (q.getD i (0, 1)) (q.getD k (0, 1))) := by
  unfold topTo; rw [List.range_succ, List.all_append]; simp
theorem fT_pL {ps : List L} {ts : List T} (hz : vpt ps ts = 0) : (pL false ps ts).length = fT ps ts ts.length := by
  rw [pL_ok hz]; unfold plc fT; rw [List.length_map]

/-- What is found of the order. -/
structure RkI (q : List (Int × Int)) (n : Nat) (ns : List Nat) : Prop where
  pw : ns.Pairwise (bf q)
  lt : ∀ a ∈ ns, a < n
  af : ∀ a ∈ ns, ∀ b, b < n → b ∉ ns → bf q a b
theorem RkI.nil (q : List (Int × Int)) (n : Nat) : RkI q n [] := ⟨List.Pairwise.nil, by simp, by simp⟩
theorem RkI.nodup {q : List (Int × Int)} {n : Nat} {ns : List Nat} (h : RkI q n ns) : ns.Nodup := h.pw.imp (fun {a b} hab e => by subst e; exact bf_asym q a a hab hab)
theorem RkI.le {q : List (Int × Int)} {n : Nat} {ns : List Nat} (h : RkI q n ns) : ns.length ≤ n := nodup_len n ns h.nodup h.lt
theorem RkI.done {q : List (Int × Int)} {n : Nat} {ns : List Nat} (h : RkI q n ns) (hn : ns.length = n) : Ranked q n ns :=
  ⟨h.pw, fun a => ⟨h.lt a, fun ha => Classical.byContradiction fun hm => by
    have := nodup_len n (a :: ns) (List.nodup_cons.2 ⟨hm, h.nodup⟩) (fun x hx => by rcases List.mem_cons.1 hx with rfl | hx; exact ha; exact h.lt x hx)
    simp at this; omega⟩⟩
/-- The best one of the first k that are left. -/
def bst (q : List (Int × Int)) (n : Nat) (ns : List Nat) (k : Nat) (b : Option Nat) : Prop :=
  match b with
  | none => ∀ j, j < k → j ∈ ns
  | some b => b < k ∧ b ∉ ns ∧ ∀ j, j < k → j ∉ ns → j = b ∨ bf q b j
theorem bst_zero (q : List (Int × Int)) (n : Nat) (ns : List Nat) : bst q n ns 0 none := fun j hj => by omega
theorem bst_in {q : List (Int × Int)} {n : Nat} {ns : List Nat} {k : Nat} {b : Option Nat} (h : bst q n ns k b) (hk : k ∈ ns) : bst q n ns (k + 1) b := by
  cases b with
  | none => intro j hj; by_cases e : j = k; · subst e; exact hk
            · exact h j (by omega)
  | some b => exact ⟨by have := h.1; omega, h.2.1, fun j hj hn => h.2.2 j (by
      by_cases e : j = k
      · subst e; exact absurd hk hn
      · omega) hn⟩
theorem bst_first {q : List (Int × Int)} {n : Nat} {ns : List Nat} {k : Nat} (h : bst q n ns k none) (hk : k ∉ ns) : bst q n ns (k + 1) (some k) :=
  ⟨by omega, hk, fun j hj hn => by
    by_cases e : j = k
    · exact .inl e
    · exact absurd (h j (by omega)) hn⟩
theorem bst_more {q : List (Int × Int)} (hq : PosQ q) {n : Nat} {ns : List Nat} {k b : Nat} (h : bst q n ns k (some b)) (hk : k ∉ ns) (hl : ltQ (q.getD b (0, 1)) (q.getD k (0, 1)) = true) : bst q n ns (k + 1) (some k) :=
  ⟨by omega, hk, fun j hj hn => by
    have hb : bf q k b := .inl hl
    by_cases e : j = k
    · exact .inl e
    · rcases h.2.2 j (by omega) hn with e2 | e2
      · subst e2; exact .inr hb
      · exact .inr (bf_trans hq hb e2)⟩
theorem bst_less {q : List (Int × Int)} {n : Nat} {ns : List Nat} {k b : Nat} (h : bst q n ns k (some b)) (hl : ltQ (q.getD b (0, 1)) (q.getD k (0, 1)) = false) : bst q n ns (k + 1) (some b) :=
  ⟨by have := h.1; omega, h.2.1, fun j hj hn => by
    by_cases e : j = k
    · subst e; exact .inr (.inr ⟨hl, h.1⟩)
    · exact h.2.2 j (by omega) hn⟩
theorem RkI.step {q : List (Int × Int)} {n : Nat} {ns : List Nat} {b : Nat} (h : RkI q n ns) (hb : bst q n ns n (some b)) : RkI q n (ns ++ [b]) :=
  ⟨sel_step h.pw (fun a ha => h.af a ha b hb.1 hb.2.1), fun a ha => by
    rcases List.mem_append.1 ha with ha | ha
    · exact h.lt a ha
    · rw [List.mem_singleton.1 ha]; exact hb.1, fun a ha c hc hn => by
    have hn1 : c ∉ ns := fun e => hn (List.mem_append.2 (.inl e))
    rcases List.mem_append.1 ha with ha | ha
    · exact h.af a ha c hc hn1
    · rw [List.mem_singleton.1 ha]
      rcases hb.2.2 c hc hn1 with e | e
      · subst e; exact absurd (List.mem_append.2 (.inr (by simp))) hn
      · exact e⟩
theorem hasB_nat (ns : List Nat) (k : Nat) : hasB (ns.map Int.ofNat) (k : Int) = decide (k ∈ ns) := by
  unfold hasB
  rw [Bool.eq_iff_iff, decide_eq_true_eq, List.any_eq_true]
  constructor
  · rintro ⟨x, hx, e⟩
    obtain ⟨j, hj, rfl⟩ := List.mem_map.1 hx
    have e2 : (j : Int) = (k : Int) := by simpa using e
    have : j = k := by omega
    rw [← this]; exact hj
  · intro h; exact ⟨_, List.mem_map.2 ⟨k, h, rfl⟩, by simp⟩
theorem plc_none {bs : List Bool} (h : ∀ i, i < bs.length → bs[i]? = some false) : plc bs = [] := by
  unfold plc plcTo
  rw [List.map_eq_nil_iff, List.filter_eq_nil_iff]
  intro i hi
  rw [List.getD_eq_getElem?_getD, h i (List.mem_range.1 hi)]
  simp

set_option maxRecDepth 100000 in
set_option maxHeartbeats 4000000 in
theorem rSuspects_any (a g : Option Addr) (ca cap : Nat) (ps : List L) (ts : List T) (w : World) (hp : LinesAt w a ps) (hts : TestsAt w g ts) :
    Calls Try.prog 39 #[.slice a ps.length ca, .slice g ts.length cap] w (GivesR (suL ps ts) (vpt ps ts) w) := by
  obtain ⟨i0, hi0, hz0, hz1', hz2'⟩ := info_parts info_int
  have HS := Lib.hid (fun w hp hts => rScores_any a g ca cap ps ts w hp hts)
  have HF := Lib.hid (fun w hp hts => rFailing_any a g ca cap ps ts w hp hts)
  by_cases hz : vpt ps ts = 0
  · obtain ⟨h1, h2⟩ := vpt_ok hz
    have h8 := (vp_ok h1).1
    have t8 := (vts_ok h2).1
    have HOK := Lib.hid (fun (i : Nat) (hi : i < ps.length) => scQ_ok (ts := ts) hi t8)
    have HSG := Lib.hid (fun (i : Nat) (hi : i < ps.length) => scL_get (ts := ts) hi)
    have hsl := scL_length ps ts
    have hfl := fT_pL hz
    have HSP := Lib.hid (fun (i : Nat) => show suP ps ts i = (topTo (scL ps ts) i ps.length && decide (0 < fT ps ts ts.length)) by unfold suP topB topTo; rw [scL_length])
    have HSB := Lib.hid (fun (i : Nat) (hi : i < ps.length) => suB_get (ts := ts) hi)
    have HSBL := Lib.hid (suB_length ps ts)
    rw [suL_ok hz, hz]
    rw [scA_ok hz, hz] at HS
    rw [hz] at HF
    generalize suP ps ts = sP at HSP HSB
    generalize suB ps ts = bs at HSB HSBL ⊢
    have hgd := fun (i : Nat) (hi : i < ps.length) => scL_getD (ts := ts) hi
    generalize scL ps ts = qs at HS HSG hsl HSP hgd
    generalize pL false ps ts = fl at HF hfl
    generalize fT ps ts ts.length = nf at hfl HSP
    have HGD := Lib.hid hgd
    have HSL := Lib.hid hsl
    clear hz h1 h2 hgd hsl
    go_enter Try.func39, Try.ntmps39
    go_wp2_with fail
    refine (HS.out _ hp hts).mono ?_
    rintro e w1 ⟨qa, qc, rfl, hq, hB⟩
    rw [HSL.out]
    have HQ := Lib.hid hq
    clear hq
    go_wp2_with fail
    refine (HF.out _ (hp.below hB (Nat.le_refl _)) (hts.below hB (Nat.le_refl _))).mono ?_
    rintro e w2 ⟨fa, fc, rfl, hf, hB2⟩
    rw [hfl]
    have HQ2 := Lib.hid (HQ.out.below hB2 (Nat.le_refl _))
    have HB := Lib.hid (hB.trans (hB2.mono hB.size))
    clear hf hB hB2 HQ HF HS
    go_wp2_with fail
    by_cases hnf : 0 < nf
    · have hn1 : decide ((0 : Int) < (nf : Int)) = true := by simp; omega
      go_loopw [10, 11] (fun s10 s11 wr => ∃ (i : Nat), i ≤ ps.length ∧ s11 = .int .i64 i ∧ wr.ownsRow w2.heap.size 3 1 s10 (plcTo bs i).length ((plcTo bs i).map (Value.int .i64)) ∧ Below w2.heap.size w2 wr) (fun _ s11 _ => ps.length - (intOf s11).toNat)
      case atStart => exact ⟨0, Nat.zero_le _, rfl, World.ownsRow_nil _ _ _ _, Below.refl _ _⟩
      case round =>
        obtain ⟨i, hi, rfl, hown, hB⟩ := hrel
        have HOW := Lib.hid hown
        have HB2 := Lib.hid hB
        clear hown hB
        by_cases hlt : i < ps.length
        · have hq := HSG.out i hlt
          obtain ⟨wo, rfl⟩ : ∃ wo : World, wo = wr := ⟨_, rfl⟩
          go_wp2_with fail
          go_loopw [12, 13] (fun s12 s13 wr => ∃ (k : Nat), k ≤ ps.length ∧ s13 = .int .i64 k ∧ s12 = .bool (topTo qs i k) ∧ Below wo.heap.size wo wr) (fun _ s13 _ => ps.length - (intOf s13).toNat)
          case atStart => exact ⟨0, Nat.zero_le _, rfl, rfl, Below.refl _ _⟩
          case round =>
            obtain ⟨k, hk, rfl, rfl, hJ⟩ := hrel
            have HJ := Lib.hid hJ
            by_cases hlt2 : k < ps.length
            · obtain ⟨gb, off, q, rfl, hgb, hq1, c0, c1⟩ := (HQ2.out.below (HB2.out.trans (hJ.mono HB2.out.size)) (Nat.le_refl _)).at_ (k := i) (by rw [HSL.out]; exact hlt)
              obtain ⟨gb', off', r, e, hgb', hr1, d0, d1⟩ := (HQ2.out.below (HB2.out.trans (hJ.mono HB2.out.size)) (Nat.le_refl _)).at_ (k := k) (by rw [HSL.out]; exact hlt2)
              obtain ⟨rfl, rfl⟩ : gb = gb' ∧ off = off' := by simpa using e
              have eq1 : scQ ps ts i = q := by have := hq1.symm.trans hq; injection this with this; exact this.symm
              have er1 : scQ ps ts k = r := by have := hr1.symm.trans (HSG.out k hlt2); injection this with this; exact this.symm
              have hokq := HOK.out i hlt
              have hokr := HOK.out k hlt2
              rw [eq1] at hokq
              rw [er1] at hokr
              have HC := Lib.hid (fun w => less_any q r hokq hokr w)
              have HT := Lib.hid (topTo_succ qs i k)
              rw [HGD.out i hlt, HGD.out k hlt2, eq1, er1] at HT
              generalize ltQ q r = bb at HC HT
              obtain ⟨q1, q2⟩ := q
              obtain ⟨r1, r2⟩ := r
              simp only at c0 c1 d0 d1 HC
              have hlg : gb < wr.heap.size := hgb
              clear hokq hokr hq1 hr1 eq1 er1 e hJ
              cases htp : topTo qs i k
              · rw [htp] at HT
                clear htp
                go_wp2_with fail
                refine wp_region_held_drew (S := (fun _ => True)) (by kernel_rfl) ?_ (fun hHeld => ?_)
                · exact trivial
                refine wpAnyH_take (i := 0) (oi := ?oiu00) (v := ?vu00) ?hiu00 (by kernel_rfl) (by kernel_rfl) (by kernel_rfl) ?hqu00 ?hyu00 hHeld ?restu00
                case hiu00 => exact rfl
                case hqu00 => exact fun _ _ _ h => h
                case hyu00 =>
                  refine Or.inl ⟨by rfl, ?_⟩
                  intro w hSw
                  (try dsimp only at hSw)
                  go_simp
                  (try with_reducible rfl)
                try simp only [Act.put, List.getElem_toArray, List.getElem_cons_succ, List.getElem_cons_zero, List.setIfInBounds_toArray, List.set_cons_zero, List.set_cons_succ]
                refine wpAnyH_take (i := 1) (oi := ?oiu01) (v := ?vu01) ?hiu01 (by kernel_rfl) (by kernel_rfl) (by kernel_rfl) ?hqu01 ?hyu01 hHeld ?restu01
                case hiu01 => exact rfl
                case hqu01 => exact fun _ _ _ h => h
                case hyu01 =>
                  refine Or.inl ⟨by rfl, ?_⟩
                  intro w hSw
                  (try dsimp only at hSw)
                  go_simp
                  (try with_reducible rfl)
                try simp only [Act.put, List.getElem_toArray, List.getElem_cons_succ, List.getElem_cons_zero, List.setIfInBounds_toArray, List.set_cons_zero, List.set_cons_succ]
                refine wpAnyH_take (i := 2) (oi := ?oiu02) (v := undef) ?hiu02 (by kernel_rfl) (by kernel_rfl) (by kernel_rfl) ?hqu02 ?hyu02 hHeld ?restu02
                case hiu02 => exact rfl
                case hqu02 => exact fun _ _ _ h => h
                case hyu02 => exact Or.inr ⟨by kernel_rfl, rfl⟩
                try simp only [Act.put, List.getElem_toArray, List.getElem_cons_succ, List.getElem_cons_zero, List.setIfInBounds_toArray, List.set_cons_zero, List.set_cons_succ]
                refine wpAnyH_take (i := 3) (oi := ?oiu03) (v := undef) ?hiu03 (by kernel_rfl) (by kernel_rfl) (by kernel_rfl) ?hqu03 ?hyu03 hHeld ?restu03
                case hiu03 => exact rfl
                case hqu03 => exact fun _ _ _ h => h
                case hyu03 => exact Or.inr ⟨by kernel_rfl, rfl⟩
                try simp only [Act.put, List.getElem_toArray, List.getElem_cons_succ, List.getElem_cons_zero, List.setIfInBounds_toArray, List.set_cons_zero, List.set_cons_succ]
                refine wpAnyH_take (i := 4) (oi := ?oiu04) (v := undef) ?hiu04 (by kernel_rfl) (by kernel_rfl) (by kernel_rfl) ?hqu04 ?hyu04 hHeld ?restu04
                case hiu04 => exact rfl
                case hqu04 => exact fun _ _ _ h => h
                case hyu04 => exact Or.inr ⟨by kernel_rfl, rfl⟩
                try simp only [Act.put, List.getElem_toArray, List.getElem_cons_succ, List.getElem_cons_zero, List.setIfInBounds_toArray, List.set_cons_zero, List.set_cons_succ]
                refine wpAnyH_take (i := 5) (oi := ?oiu05) (v := undef) ?hiu05 (by kernel_rfl) (by kernel_rfl) (by kernel_rfl) ?hqu05 ?hyu05 hHeld ?restu05
                case hiu05 => exact rfl
                case hqu05 => exact fun _ _ _ h => h
                case hyu05 => exact Or.inr ⟨by kernel_rfl, rfl⟩
                try simp only [Act.put, List.getElem_toArray, List.getElem_cons_succ, List.getElem_cons_zero, List.setIfInBounds_toArray, List.set_cons_zero, List.set_cons_succ]
                refine wpAnyH_take (i := 6) (oi := ?oiu06) (v := undef) ?hiu06 (by kernel_rfl) (by kernel_rfl) (by kernel_rfl) ?hqu06 ?hyu06 hHeld ?restu06
                case hiu06 => exact rfl
                case hqu06 => exact fun _ _ _ h => h
                case hyu06 => exact Or.inr ⟨by kernel_rfl, rfl⟩
                try simp only [Act.put, List.getElem_toArray, List.getElem_cons_succ, List.getElem_cons_zero, List.setIfInBounds_toArray, List.set_cons_zero, List.set_cons_succ]
                refine wpAnyH_take (i := 7) (oi := ?oiu07) (v := undef) ?hiu07 (by kernel_rfl) (by kernel_rfl) (by kernel_rfl) ?hqu07 ?hyu07 hHeld ?restu07
                case hiu07 => exact rfl
                case hqu07 => exact fun _ _ _ h => h
                case hyu07 => exact Or.inr ⟨by kernel_rfl, rfl⟩
                try simp only [Act.put, List.getElem_toArray, List.getElem_cons_succ, List.getElem_cons_zero, List.setIfInBounds_toArray, List.set_cons_zero, List.set_cons_succ]
                refine wpAnyH_take (i := 8) (oi := ?oiu08) (v := undef) ?hiu08 (by kernel_rfl) (by kernel_rfl) (by kernel_rfl) ?hqu08 ?hyu08 hHeld ?restu08
                case hiu08 => exact rfl
                case hqu08 => exact fun _ _ _ h => h
                case hyu08 => exact Or.inr ⟨by kernel_rfl, rfl⟩
                try simp only [Act.put, List.getElem_toArray, List.getElem_cons_succ, List.getElem_cons_zero, List.setIfInBounds_toArray, List.set_cons_zero, List.set_cons_succ]
                refine wpAnyH_take (i := 9) (oi := ?oiu09) (v := undef) ?hiu09 (by kernel_rfl) (by kernel_rfl) (by kernel_rfl) ?hqu09 ?hyu09 hHeld ?restu09
                case hiu09 => exact rfl
                case hqu09 => exact fun _ _ _ h => h
                case hyu09 => exact Or.inr ⟨by kernel_rfl, rfl⟩
                try simp only [Act.put, List.getElem_toArray, List.getElem_cons_succ, List.getElem_cons_zero, List.setIfInBounds_toArray, List.set_cons_zero, List.set_cons_succ]
                refine wpAnyH_take (i := 10) (oi := ?oiu10) (v := undef) ?hiu10 (by kernel_rfl) (by kernel_rfl) (by kernel_rfl) ?hqu10 ?hyu10 hHeld ?restu10
                case hiu10 => exact rfl
                case hqu10 => exact fun _ _ _ h => h
                case hyu10 => exact Or.inr ⟨by kernel_rfl, rfl⟩
                try simp only [Act.put, List.getElem_toArray, List.getElem_cons_succ, List.getElem_cons_zero, List.setIfInBounds_toArray, List.set_cons_zero, List.set_cons_succ]
                refine wpAnyH_take (i := 11) (oi := ?oiu11) (v := undef) ?hiu11 (by kernel_rfl) (by kernel_rfl) (by kernel_rfl) ?hqu11 ?hyu11 hHeld ?restu11
                case hiu11 => exact rfl
                case hqu11 => exact fun _ _ _ h => h
                case hyu11 => exact Or.inr ⟨by kernel_rfl, rfl⟩
                try simp only [Act.put, List.getElem_toArray, List.getElem_cons_succ, List.getElem_cons_zero, List.setIfInBounds_toArray, List.set_cons_zero, List.set_cons_succ]
                refine wpAnyH_take (i := 12) (oi := ?oiu12) (v := ?vu12) ?hiu12 (by kernel_rfl) (by kernel_rfl) (by kernel_rfl) ?hqu12 ?hyu12 hHeld ?restu12
                case hiu12 => exact rfl
                case hqu12 => exact fun _ _ _ h => h
                case hyu12 =>
                  refine Or.inl ⟨by rfl, ?_⟩
                  intro w hSw
                  (try dsimp only at hSw)
                  go_simp
                  (try with_reducible rfl)
                try simp only [Act.put, List.getElem_toArray, List.getElem_cons_succ, List.getElem_cons_zero, List.setIfInBounds_toArray, List.set_cons_zero, List.set_cons_succ]
                refine wpAnyH_take (i := 13) (oi := ?oiu13) (v := ?vu13) ?hiu13 (by kernel_rfl) (by kernel_rfl) (by kernel_rfl) ?hqu13 ?hyu13 hHeld ?restu13
                case hiu13 => exact rfl
                case hqu13 => exact fun _ _ _ h => h
                case hyu13 =>
                  refine Or.inl ⟨by rfl, ?_⟩
                  intro w hSw
                  (try dsimp only at hSw)
                  go_simp
                  (try with_reducible rfl)
                try simp only [Act.put, List.getElem_toArray, List.getElem_cons_succ, List.getElem_cons_zero, List.setIfInBounds_toArray, List.set_cons_zero, List.set_cons_succ]
                refine wpAnyH_done (by kernel_rfl) ?_ _
                go_wp2_with fail
                go_roundw
                case rel => exact ⟨k + 1, by omega, by go_num, by rw [HT.out]; rfl, HJ.out.drew⟩
                case measure => first | (simp [intOf]; done) | (simp [intOf]; omega)
              · rw [htp] at HT
                clear htp
                go_wp2_with fail
                refine wp_region_held_drew (S := (fun w' => w'.cell? ⟨gb, off + i * 2, none⟩ = some (.int .i64 q1) ∧ w'.cell? ⟨gb, off + i * 2 + 1, none⟩ = some (.int .i64 q2) ∧ w'.cell? ⟨gb, off + k * 2, none⟩ = some (.int .i64 r1) ∧ w'.cell? ⟨gb, off + k * 2 + 1, none⟩ = some (.int .i64 r2))) (by kernel_rfl) ?_ (fun hHeld => ?_)
                · exact ⟨c0, c1, d0, d1⟩
                refine wpAnyH_take (i := 0) (oi := ?oiv00) (v := ?vv00) ?hiv00 (by kernel_rfl) (by kernel_rfl) (by kernel_rfl) ?hqv00 ?hyv00 hHeld ?restv00
                case hiv00 => exact rfl
                case hqv00 => exact fun _ _ _ h => h
                case hyv00 =>
                  refine Or.inl ⟨by rfl, ?_⟩
                  intro w hSw
                  (try dsimp only at hSw)
                  go_simp
                  (try with_reducible rfl)
                try simp only [Act.put, List.getElem_toArray, List.getElem_cons_succ, List.getElem_cons_zero, List.setIfInBounds_toArray, List.set_cons_zero, List.set_cons_succ]
                refine wpAnyH_take (i := 1) (oi := ?oiv01) (v := ?vv01) ?hiv01 (by kernel_rfl) (by kernel_rfl) (by kernel_rfl) ?hqv01 ?hyv01 hHeld ?restv01
                case hiv01 => exact rfl
                case hqv01 => exact fun _ _ _ h => h
                case hyv01 =>
                  refine Or.inl ⟨by rfl, ?_⟩
                  intro w hSw
                  (try dsimp only at hSw)
                  go_simp
                  (try with_reducible rfl)
                try simp only [Act.put, List.getElem_toArray, List.getElem_cons_succ, List.getElem_cons_zero, List.setIfInBounds_toArray, List.set_cons_zero, List.set_cons_succ]
                refine wpAnyH_take (i := 2) (oi := ?oiv02) (v := ?vv02) ?hiv02 (by kernel_rfl) (by kernel_rfl) (by kernel_rfl) ?hqv02 ?hyv02 hHeld ?restv02
                case hiv02 => exact rfl
                case hqv02 => exact fun _ _ _ h => h
                case hyv02 =>
                  refine Or.inl ⟨by rfl, ?_⟩
                  intro w hSw
                  (try dsimp only at hSw)
                  go_simp
                  (try with_reducible rfl)
                try simp only [Act.put, List.getElem_toArray, List.getElem_cons_succ, List.getElem_cons_zero, List.setIfInBounds_toArray, List.set_cons_zero, List.set_cons_succ]
                refine wpAnyH_take (i := 3) (oi := ?oiv03) (v := ?vv03) ?hiv03 (by kernel_rfl) (by kernel_rfl) (by kernel_rfl) ?hqv03 ?hyv03 hHeld ?restv03
                case hiv03 => exact rfl
                case hqv03 => exact fun _ _ _ h => h
                case hyv03 =>
                  refine Or.inl ⟨by rfl, ?_⟩
                  intro w hSw
                  (try dsimp only at hSw)
                  go_simp
                  (try with_reducible rfl)
                try simp only [Act.put, List.getElem_toArray, List.getElem_cons_succ, List.getElem_cons_zero, List.setIfInBounds_toArray, List.set_cons_zero, List.set_cons_succ]
                refine wpAnyH_take (i := 4) (oi := ?oiv04) (v := ?vv04) ?hiv04 (by kernel_rfl) (by kernel_rfl) (by kernel_rfl) ?hqv04 ?hyv04 hHeld ?restv04
                case hiv04 => exact rfl
                case hqv04 => exact fun _ _ _ h => h
                case hyv04 =>
                  refine Or.inl ⟨by rfl, ?_⟩
                  intro w hSw
                  (try dsimp only at hSw)
                  go_simp
                  (try with_reducible rfl)
                try simp only [Act.put, List.getElem_toArray, List.getElem_cons_succ, List.getElem_cons_zero, List.setIfInBounds_toArray, List.set_cons_zero, List.set_cons_succ]
                refine wpAnyH_take (i := 5) (oi := ?oiv05) (v := ?vv05) ?hiv05 (by kernel_rfl) (by kernel_rfl) (by kernel_rfl) ?hqv05 ?hyv05 hHeld ?restv05
                case hiv05 => exact rfl
                case hqv05 => exact fun _ _ _ h => h
                case hyv05 =>
                  refine Or.inl ⟨by rfl, ?_⟩
                  intro w hSw
                  (try dsimp only at hSw)
                  go_simp
                  (try with_reducible rfl)
                try simp only [Act.put, List.getElem_toArray, List.getElem_cons_succ, List.getElem_cons_zero, List.setIfInBounds_toArray, List.set_cons_zero, List.set_cons_succ]
                refine wpAnyH_take (i := 6) (oi := ?oiv06) (v := ?vv06) ?hiv06 (by kernel_rfl) (by kernel_rfl) (by kernel_rfl) ?hqv06 ?hyv06 hHeld ?restv06
                case hiv06 => exact rfl
                case hqv06 => exact fun _ _ _ h => h
                case hyv06 =>
                  refine Or.inl ⟨by rfl, ?_⟩
                  intro w hSw
                  (try dsimp only at hSw)
                  go_simp
                  (try with_reducible rfl)
                try simp only [Act.put, List.getElem_toArray, List.getElem_cons_succ, List.getElem_cons_zero, List.setIfInBounds_toArray, List.set_cons_zero, List.set_cons_succ]
                refine wpAnyH_take (i := 7) (oi := ?oiv07) (v := ?vv07) ?hiv07 (by kernel_rfl) (by kernel_rfl) (by kernel_rfl) ?hqv07 ?hyv07 hHeld ?restv07
                case hiv07 => exact rfl
                case hqv07 => exact fun _ _ _ h => h
                case hyv07 =>
                  refine Or.inl ⟨by rfl, ?_⟩
                  intro w hSw
                  (try dsimp only at hSw)
                  go_simp
                  (try with_reducible rfl)
                try simp only [Act.put, List.getElem_toArray, List.getElem_cons_succ, List.getElem_cons_zero, List.setIfInBounds_toArray, List.set_cons_zero, List.set_cons_succ]
                refine wpAnyH_take (i := 8) (oi := ?oiv08) (v := ?vv08) ?hiv08 (by kernel_rfl) (by kernel_rfl) (by kernel_rfl) ?hqv08 ?hyv08 hHeld ?restv08
                case hiv08 => exact rfl
                case hqv08 => exact fun _ _ _ h => h
                case hyv08 =>
                  refine Or.inl ⟨by rfl, ?_⟩
                  intro w hSw
                  (try dsimp only at hSw)
                  go_simp
                  (try with_reducible rfl)
                try simp only [Act.put, List.getElem_toArray, List.getElem_cons_succ, List.getElem_cons_zero, List.setIfInBounds_toArray, List.set_cons_zero, List.set_cons_succ]
                refine wpAnyH_take (i := 9) (oi := ?oiv09) (v := ?vv09) ?hiv09 (by kernel_rfl) (by kernel_rfl) (by kernel_rfl) ?hqv09 ?hyv09 hHeld ?restv09
                case hiv09 => exact rfl
                case hqv09 => exact fun _ _ _ h => h
                case hyv09 =>
                  refine Or.inl ⟨by rfl, ?_⟩
                  intro w hSw
                  (try dsimp only at hSw)
                  go_simp
                  (try with_reducible rfl)
                try simp only [Act.put, List.getElem_toArray, List.getElem_cons_succ, List.getElem_cons_zero, List.setIfInBounds_toArray, List.set_cons_zero, List.set_cons_succ]
                refine wpAnyH_ready (rs := [10]) (by kernel_rfl) (by simp) ?_
                refine AllReadyH.cons (o := ?oov10) ?hov10 ?hkv10 AllReadyH.nil
                case hov10 => exact rfl
                intro K hK
                go_simp
                refine (HC.out _).mono ?_; rintro e wa ⟨rfl, hBa⟩; have hBB := (Below.refl _ _).drew.trans hBa
                refine hK.out _ _ ?_ (fun hHeld => ?_)
                · exact ⟨(hBB.cell (p := ⟨gb, _, none⟩) hlg).trans c0, (hBB.cell (p := ⟨gb, _, none⟩) hlg).trans c1, (hBB.cell (p := ⟨gb, _, none⟩) hlg).trans d0, (hBB.cell (p := ⟨gb, _, none⟩) hlg).trans d1⟩
                clear hK K
                try simp only [Act.put, List.getElem_toArray, List.getElem_cons_succ, List.getElem_cons_zero, List.setIfInBounds_toArray, List.set_cons_zero, List.set_cons_succ]
                refine wpAnyH_take (i := 11) (oi := ?oiv11) (v := ?vv11) ?hiv11 (by kernel_rfl) (by kernel_rfl) (by kernel_rfl) ?hqv11 ?hyv11 hHeld ?restv11
                case hiv11 => exact rfl
                case hqv11 => exact fun _ _ _ h => h
                case hyv11 =>
                  refine Or.inl ⟨by rfl, ?_⟩
                  intro w hSw
                  (try dsimp only at hSw)
                  go_simp
                  (try with_reducible rfl)
                try simp only [Act.put, List.getElem_toArray, List.getElem_cons_succ, List.getElem_cons_zero, List.setIfInBounds_toArray, List.set_cons_zero, List.set_cons_succ]
                refine wpAnyH_take (i := 12) (oi := ?oiv12) (v := ?vv12) ?hiv12 (by kernel_rfl) (by kernel_rfl) (by kernel_rfl) ?hqv12 ?hyv12 hHeld ?restv12
                case hiv12 => exact rfl
                case hqv12 => exact fun _ _ _ h => h
                case hyv12 =>
                  refine Or.inl ⟨by rfl, ?_⟩
                  intro w hSw
                  (try dsimp only at hSw)
                  go_simp
                  (try with_reducible rfl)
                try simp only [Act.put, List.getElem_toArray, List.getElem_cons_succ, List.getElem_cons_zero, List.setIfInBounds_toArray, List.set_cons_zero, List.set_cons_succ]
                refine wpAnyH_take (i := 13) (oi := ?oiv13) (v := ?vv13) ?hiv13 (by kernel_rfl) (by kernel_rfl) (by kernel_rfl) ?hqv13 ?hyv13 hHeld ?restv13
                case hiv13 => exact rfl
                case hqv13 => exact fun _ _ _ h => h
                case hyv13 =>
                  refine Or.inl ⟨by rfl, ?_⟩
                  intro w hSw
                  (try dsimp only at hSw)
                  go_simp
                  (try with_reducible rfl)
                try simp only [Act.put, List.getElem_toArray, List.getElem_cons_succ, List.getElem_cons_zero, List.setIfInBounds_toArray, List.set_cons_zero, List.set_cons_succ]
                refine wpAnyH_done (by kernel_rfl) ?_ _
                go_wp2_with fail
                go_roundw
                case rel => exact ⟨k + 1, by omega, by go_num, by rw [HT.out]; rfl, HJ.out.trans (hBB.mono HJ.out.size)⟩
                case measure => first | (simp [intOf]; done) | (simp [intOf]; omega)
            · obtain rfl : k = ps.length := by omega
              have hbi := HSB.out i hlt
              rw [HSP.out i, decide_eq_true hnf, Bool.and_true] at hbi
              have HBI := Lib.hid hbi
              have HO2 := Lib.hid (own_below HOW.out HJ.out (Nat.le_refl _))
              have HB3 := Lib.hid (HB2.out.trans (HJ.out.mono HB2.out.size))
              clear hbi hJ hq
              cases htp : topTo qs i ps.length
              · rw [htp] at HBI
                clear htp
                go_wp2_with fail
                go_roundw
                case rel => exact ⟨i + 1, by omega, by go_num, by rw [plcTo_no HBI.out]; exact HO2.out, HB3.out⟩
                case measure => first | (simp [intOf]; done) | (simp [intOf]; omega)
              · rw [htp] at HBI
                clear htp
                have hown := HO2.out
                have hl := plcTo_length bs i
                have hws := HB3.out.size
                go_wp2_with (at_builtin; refine wpList_append_own _ rfl (.tmp 60) (.tmp 62) 23 rfl w2.heap.size 3 i0 (.int .i64 0) 1 8 Try.underlying23 hi0 hz0 hz1' hz2' rfl (by decide) _ _ _ rfl (hown.alloc _) ⟨wr.heap.size, 0, none⟩ 1 1 [.int .i64 i] rfl rfl ?c1 ?c2 ?c3 ?c4 ?c5 ?_)
                case c1 => exact cell_one_new _ _ _
                case c2 => simp [Value.oneCell']
                case c3 => unfold maxLen; omega
                case c4 => omega
                case c5 => simp; omega
                intro v' w3 hown' hgrow _
                have hB4 := (HB3.out.alloc HB3.out.size _).grown hgrow (by simp; omega) (own_base hown)
                have e : (plcTo bs i).map (Value.int .i64) ++ [.int .i64 i] = (plcTo bs (i + 1)).map (Value.int .i64) := by rw [plcTo_yes HBI.out]; simp
                have e2 : (plcTo bs i).length + 1 = (plcTo bs (i + 1)).length := by rw [plcTo_yes HBI.out]; simp
                rw [e, e2] at hown'
                have HO := Lib.hid hown'
                clear hown hown' hgrow e e2
                go_wp2_with fail
                go_roundw
                case rel => exact ⟨i + 1, by omega, by go_num, HO.out, hB4⟩
                case measure => first | (simp [intOf]; done) | (simp [intOf]; omega)
        · obtain rfl : i = ps.length := by omega
          have hx : plcTo bs ps.length = plc bs := by unfold plc; rw [HSBL.out]
          have hown := HOW.out
          rw [hx] at hown
          obtain ⟨a1, c1, rfl⟩ := own_slice hown
          have HO := Lib.hid hown
          clear hown hx HOW
          go_wp2_with fail
          go_ret2
          exact ⟨a1, c1, rfl, (ints_of_own HO.out).1, HB.out.trans (HB2.out.mono HB.out.size)⟩
    · have hn1 : decide ((0 : Int) < (nf : Int)) = false := by simp; omega
      have hpl : plc bs = [] := plc_none fun i hi => by
        rw [HSB.out i (by rw [← HSBL.out]; exact hi), HSP.out i, decide_eq_false hnf, Bool.and_false]
      have HPL := Lib.hid hpl
      clear hpl
      go_loopw [10, 11] (fun s10 s11 wr => s10 = .slice none 0 0 ∧ s11 = .int .i64 0 ∧ wr = w2) (fun _ _ _ => 0)
      case atStart => exact ⟨rfl, rfl, rfl⟩
      case round =>
        obtain ⟨rfl, rfl, rfl⟩ := hrel
        by_cases h0 : 0 < ps.length
        · go_wp2_with fail
          go_ret2
          rw [HPL.out]
          exact ⟨none, 0, rfl, .inl rfl, HB.out⟩
        · have h00 : ps.length = 0 := by omega
          go_wp2_with fail
          go_ret2
          rw [HPL.out]
          exact ⟨none, 0, rfl, .inl rfl, HB.out⟩
  · rw [suL_no hz]
    rw [scA_no hz] at HS
    generalize vpt ps ts = c at HS hz
    have hz1 : (c != 0) = true := by simpa using hz
    have hz2 : (c == 0) = false := by simpa using hz
    clear hz HF
    go_enter Try.func39, Try.ntmps39
    go_wp2_with fail
    refine (HS.out _ hp hts).mono ?_
    rintro e w1 ⟨qa, qc, rfl, hq, hB⟩
    go_wp2_with fail
    go_ret2
    exact ⟨none, 0, rfl, .inl rfl, hB⟩

end Go.Proofs.Ytndmjenfgggfbaa
