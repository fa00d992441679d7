/- Several texts in one. -/
import Derived.Test.YtmigkbimdjiigaaSvE
import Derived.Test.YtmigkbimdjiigaaSuX
import Derived.Test.YtmigkbimdjiigaaOpenC
/- Suites of the document: Copy, Same on equal suites: contracts. -/
set_option linter.unusedVariables false
set_option linter.unusedSimpArgs false
namespace Go.Proofs.Ytmigkbimdjiigaa
open Go.RowKit Tinker

theorem apart8 {W : World} {base : Nat} {o : Option Nat} {a : Option Addr} {zs : List Int} (h : OwnL W base none a zs) (ho : ∀ b, base ≤ b → o ≠ some b) : OwnL W base o a zs := by
  rcases h with h | ⟨b, h1, h2, h3, h4⟩
  · exact .inl h
  · exact .inr ⟨b, h1, h2, ho b h2, h4⟩

set_option maxRecDepth 100000 in
set_option maxHeartbeats 4000000 in
theorem rCopy8_any (a : Option Addr) (ca : Nat) (t : List (List Int)) (w : World) (ht : RowsN w a t) (hl : t.length ≤ 1000) (hm : ∀ z ∈ t, z.length ≤ 1000) :
    Calls Try.prog 49 #[.slice a t.length ca] w fun e w' => ∃ b c xs, e = .returned (.slice b t.length c) ∧ RowsI w (.slice b t.length c) t xs w' := by
  obtain ⟨i0, hii, hz0, hz1, hz2⟩ := info_parts info_int
  obtain ⟨j0, hjj, jz0, jz1, jz2⟩ := info_parts info_ints
  have HT := Lib.hid ht
  have HM := Lib.hid hm
  clear ht hm
  go_enter Try.func49, Try.ntmps49
  go_wp2_with fail
  go_loopw [3, 4] (fun s3 s4 wr => ∃ (k : Nat) (xs : List Value), k ≤ t.length ∧ s4 = .int .i64 k ∧ RowsI w s3 (t.take k) xs wr) (fun _ s4 _ => t.length - (intOf s4).toNat)
  case atStart => exact ⟨0, [], Nat.zero_le _, rfl, by simpa using RowsI.nil (Below.refl _ _)⟩
  case round =>
    obtain ⟨k, xs, hk, rfl, hI⟩ := hrel
    by_cases hlt : k < t.length
    · obtain ⟨b3, off3, z, a3, c3, rfl, hlb3, hz, d3, hi3, hn3⟩ := (HT.out.below hI.below (Nat.le_refl _)).get hlt
      have HTK := Lib.hid (show t.take (k + 1) = t.take k ++ [z] by rw [List.take_add_one, hz]; rfl)
      have hzl := HM.out z (mem_of_get hz)
      have htl : (t.take k).length = k := by rw [List.length_take]; omega
      have HTL := Lib.hid htl
      obtain ⟨va, vc, rfl⟩ := own_slice hI.out
      have hws := hI.below.size
      have hown0 := World.ownsRow_lit (base := wr.heap.size) (e := 3) (size := 1) wr #[] 0 (Nat.le_refl _) (by simp [maxLen]) (by simp)
      have HAP := Lib.hid (show ∀ b, wr.heap.size ≤ b → (Value.slice va (t.take k).length vc).ownBlock ≠ some b from fun b hb e => by have := (hI.out.lt b e).2; omega)
      have HI := Lib.hid hI
      clear hz hI htl
      generalize t.take k = TK at *
      cases a3 with
      | none =>
        have hc0 := hn3 rfl
        subst hc0
        have hz0' := hi3.none
        subst hz0'
        have hB1 : Below wr.heap.size wr (wr.alloc (.cells #[] 3)) := (Below.refl _ _).alloc (Nat.le_refl _) _
        have HR3 := Lib.hid ((HI.out.low hB1).low ((Below.refl _ _).alloc (Nat.le_refl _) (.cells #[.slice (some ⟨wr.heap.size, 0, none⟩) 0 0] 23)))
        have HC1 := Lib.hid (cell_one_new (wr.alloc (.cells #[] 3)) (.slice (some ⟨wr.heap.size, 0, none⟩) 0 0) 23)
        have HOL := Lib.hid (show OwnL ((wr.alloc (.cells #[] 3)).alloc (.cells #[.slice (some ⟨wr.heap.size, 0, none⟩) 0 0] 23)) w.heap.size (Value.slice va TK.length vc).ownBlock (some ⟨wr.heap.size, 0, none⟩) [] from .inl rfl)
        go_wp2_with (at_builtin; (refine wpList_append_own_at _ rfl (.tmp 11) (.tmp 18) 22 rfl w.heap.size 23 j0 (.slice none 0 0) 1 24 Try.underlying22 hjj jz0 jz1 jz2 rfl (by decide) _ _ xs rfl HR3.out.out ⟨wr.heap.size + 1, 0, none⟩ 1 1 [.slice (some ⟨wr.heap.size, 0, none⟩) 0 0] rfl ?p1 ?p2 ?p3 ?p4 ?p5 ?p6 ?_))
        try (case p1 => rfl)
        try (case p2 => first | exact HC1.out | (have h9 := HC1.out; simpa using h9))
        try (case p3 => simp [Value.oneCell'])
        case p4 => unfold maxLen; have := HTL.out; omega
        case p5 => have := HTL.out; omega
        case p6 => have := HR3.out.below.size; simp at this ⊢; omega
        intro v3 w3 hown3 hgrow3 _ hat3
        have hP := HR3.out.push (zs := ([] : List Int)) (c := 0) HOL.out hown3 hgrow3 (by simpa using hat3)
        rw [← HTK.out] at hP
        have HP := Lib.hid hP
        clear hown3 hgrow3 hat3 hP HR3
        go_wp2_with fail
        go_roundw
        case rel => exact ⟨k + 1, _, by omega, by go_num, HP.out⟩
        case measure => simp [intOf]; omega
      | some q =>
        have HCL := Lib.hid hi3.cells
        have HLZ := Lib.hid (show (z.map (Value.int .i64)).length = z.length * 1 by rw [List.length_map, Nat.mul_one])
        clear hi3 hn3
        go_wp2_with (at_builtin; (refine wpList_append_own _ rfl (.tmp 12) (.tmp 16) 23 rfl wr.heap.size 3 i0 (.int .i64 0) 1 8 Try.underlying23 hii hz0 hz1 hz2 rfl (by decide) _ 0 [] rfl hown0 q z.length c3 (z.map (Value.int .i64)) rfl ?c1 ?c2 ?c3 ?c4 ?c5 ?c6 ?_))
        case c2 => exact fun j u hu => cell_alloc_keep (HCL.out j (.int .i64 u) (by simp [hu]))
        case c3 => simp [Value.oneCell']
        case c4 => simp [maxLen]; omega
        case c5 => omega
        intro v' W1 hown1 hgrow _
        have hB1 : Below wr.heap.size wr W1 := ((Below.refl _ _).alloc (Nat.le_refl _) _).grown hgrow (by simp) (by rintro k hk; simp [Value.ownBlock] at hk; omega)
        have hown1' : W1.ownsRow wr.heap.size 3 1 v' z.length (z.map (Value.int .i64)) := by simpa using hown1
        obtain ⟨a2, k2, rfl⟩ := own_slice hown1'
        have hal : Below W1.heap.size W1 (W1.alloc (.cells #[.slice a2 z.length k2] 23)) := (Below.refl _ _).alloc (Nat.le_refl _) _
        have HOL := Lib.hid (((apart8 (o := (Value.slice va TK.length vc).ownBlock) (ownL_of hown1') (fun b hb => HAP.out b hb)).wide hws).low hal)
        have HR3 := Lib.hid ((HI.out.low hB1).low hal)
        clear hown0 hgrow hown1 hown1' hal hB1 HI HCL HLZ
        go_wp2_with (at_builtin; (refine wpList_append_own_at _ rfl (.tmp 11) (.tmp 18) 22 rfl w.heap.size 23 j0 (.slice none 0 0) 1 24 Try.underlying22 hjj jz0 jz1 jz2 rfl (by decide) _ _ xs rfl HR3.out.out ⟨W1.heap.size, 0, none⟩ 1 1 [.slice a2 z.length k2] rfl ?r1 ?r2 ?r3 ?r4 ?r5 ?r6 ?_))
        case r1 => rfl
        case r2 => exact cell_one_new _ _ _
        case r3 => simp [Value.oneCell']
        case r4 => unfold maxLen; have := HTL.out; omega
        case r5 => have := HTL.out; omega
        case r6 => have := HR3.out.below.size; simp at this ⊢; omega
        intro v3 w3 hown3 hgrow3 _ hat3
        have hP := HR3.out.push (zs := z) (c := k2) HOL.out hown3 hgrow3 (by simpa using hat3)
        rw [← HTK.out] at hP
        have HP := Lib.hid hP
        clear hown3 hgrow3 hat3 hP HR3
        go_wp2_with fail
        go_roundw
        case rel => exact ⟨k + 1, _, by omega, by go_num, HP.out⟩
        case measure => simp [intOf]; omega
    · obtain rfl : k = t.length := by omega
      rw [List.take_length] at hI
      obtain ⟨va, vc, rfl⟩ := own_slice hI.out
      have HI := Lib.hid hI
      clear hI
      go_wp2_with fail
      go_ret
      exact ⟨va, vc, xs, rfl, HI.out⟩

end Go.Proofs.Ytmigkbimdjiigaa

/- Suites of the document: Same on equal suites: contract. -/
set_option linter.unusedVariables false
set_option linter.unusedSimpArgs false
namespace Go.Proofs.Ytmigkbimdjiigaa
open Go.RowKit Tinker

set_option maxRecDepth 100000 in
set_option maxHeartbeats 4000000 in
theorem rSame8_self (a b : Option Addr) (ca cb : Nat) (t : List (List Int)) (w : World) (h1 : RowsAt w a t) (h2 : RowsAt w b t) (hl : t.length ≤ 1000) (hm : ∀ z ∈ t, z.length ≤ 1000) :
    Calls Try.prog 52 #[.slice a t.length ca, .slice b t.length cb] w fun e w' => e = .returned (.bool true) ∧ Below w.heap.size w w' := by
  have HA := Lib.hid h1
  have HB := Lib.hid h2
  have HM := Lib.hid hm
  have e1 : ((t.length : Int) != (t.length : Int)) = false := by simp
  clear h1 h2 hm
  go_enter Try.func52, Try.ntmps52
  go_wp2_with fail
  go_loopw [5] (fun s5 wr => ∃ k : Nat, k ≤ t.length ∧ s5 = .int .i64 k ∧ Below w.heap.size w wr) (fun s5 _ => t.length - (intOf s5).toNat)
  case atStart => exact ⟨0, Nat.zero_le _, rfl, Below.refl _ _⟩
  case round =>
    obtain ⟨k, hk, rfl, hB⟩ := hrel
    by_cases hlt : k < t.length
    · obtain ⟨b3, off3, z, a3, c3, rfl, hlb3, hz, d3, hi3⟩ := (HA.out.below hB (Nat.le_refl _)).at_ hlt
      obtain ⟨b4, off4, z4, a4, c4, rfl, hlb4, hz4, d4, hi4⟩ := (HB.out.below hB (Nat.le_refl _)).at_ hlt
      rw [hz] at hz4
      injection hz4 with hz4
      subst hz4
      have HS := Lib.hid (fun w h1 h2 => sameI8_self z.length a3 a4 c3 c4 z w rfl h1 h2 (HM.out z (mem_of_get hz)))
      have HI3 := Lib.hid hi3
      have HI4 := Lib.hid hi4
      have HBB := Lib.hid hB
      clear hz hi3 hi4 hB
      generalize z.length = n at *
      go_wp2_with fail
      have hx : Below wr.heap.size wr wr.drew := (Below.refl _ _).drew
      go_region_held3 (fun w' => w'.cell? ⟨b3, off3 + k, none⟩ = some (.slice a3 n c3) ∧ w'.cell? ⟨b4, off4 + k, none⟩ = some (.slice a4 n c4)) (first | exact ⟨d3, d4⟩ | exact ⟨(hBa.cell (p := ⟨b3, _, none⟩) hlb3).trans d3, (hBa.cell (p := ⟨b4, _, none⟩) hlb4).trans d4⟩ | go_keep) ((go_at_call 25; refine (HS.out _ ?_ ?_).mono ?_; exact (HI3.out.below hx (Nat.le_refl _)); exact (HI4.out.below hx (Nat.le_refl _)); rintro e wa ⟨rfl, hBa⟩; replace hx := hx.trans (hBa.mono hx.size)))
      all_goals go_wp2_with fail
      all_goals go_roundw
      all_goals first | exact ⟨k + 1, by omega, by go_num, HBB.out.trans (hx.mono HBB.out.size)⟩ | (simp [intOf]; omega)
    · obtain rfl : k = t.length := by omega
      have HBB := Lib.hid hB
      clear hB
      go_wp2_with fail
      go_ret
      exact ⟨rfl, HBB.out⟩

end Go.Proofs.Ytmigkbimdjiigaa
