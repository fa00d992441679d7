/- What a patch fixes and breaks, what is left of a good one: plain mathematics. -/
import Derived.Test.YtikblaebfpdngaaPtM
import Derived.Test.YtikblaebfpdngaaHas
import Derived.Test.YtikblaebfpdngaaSorted
set_option linter.unusedVariables false
set_option linter.unusedSimpArgs false
namespace Go.Proofs.Ytikblaebfpdngaa
open Go.RowKit Tinker

/-- Which tests are lost (true) or won (false) between two programs. -/
def trL (before : Bool) (ps qs : List L) (ts : List T) : List Int := plc (ts.map fun t => pas ps t == before && pas qs t != before)
theorem has_plc {bs : List Bool} {j : Nat} : hasB (plc bs) (j : Int) = bs.getD j false := by
  cases h : bs.getD j false
  · cases h2 : hasB (plc bs) (j : Int)
    · rfl
    · obtain ⟨i, hi, _, h3⟩ := plc_mem h2
      have : i = j := by omega
      subst this
      rw [h] at h3
      cases h3
  · exact mem_plc h
/-- The places of one list that another one lacks. -/
theorem plc_without (f g : T → Bool) (ts : List T) : (plc (ts.map f)).filter (fun n => !hasB (plc (ts.map g)) n) = plc (ts.map fun t => f t && !g t) := by
  unfold plc plcTo
  rw [List.filter_map, List.filter_filter]
  simp only [List.length_map]
  congr 1
  apply List.filter_congr
  intro i hi
  rw [List.mem_range] at hi
  obtain ⟨t, ht⟩ := get_of_lt hi
  have e1 : (ts.map f).getD i false = f t := getD_of_get (by rw [List.getElem?_map, ht]; rfl)
  have e2 : (ts.map g).getD i false = g t := getD_of_get (by rw [List.getElem?_map, ht]; rfl)
  have e3 : (ts.map fun t => f t && !g t).getD i false = (f t && !g t) := getD_of_get (by rw [List.getElem?_map, ht]; rfl)
  have e4 : hasB (((List.range (ts.map g).length).filter (fun i => (ts.map g).getD i false)).map Int.ofNat) (Int.ofNat i) = g t := (has_plc (bs := ts.map g) (j := i)).trans e2
  rw [List.length_map] at e4
  show (!hasB _ (Int.ofNat i) && (ts.map f).getD i false) = _
  rw [e1, e3, e4]
  cases f t <;> cases g t <;> rfl
theorem tr_map (b : Bool) (ps qs : List L) (ts : List T) : (ts.map fun t => pas ps t == b && !(pas qs t == b)) = ts.map fun t => pas ps t == b && pas qs t != b := rfl
/-- What the code makes of the failing tests before and after. -/
theorem fx_eq {ps qs : List L} {ts : List T} (h1 : vpt ps ts = 0) (h2 : vpt qs ts = 0) : (pL false ps ts).filter (fun n => !hasB (pL false qs ts) n) = trL false ps qs ts := by
  rw [pL_ok h1, pL_ok h2, plc_without]
  rfl
theorem br_eq {ps qs : List L} {ts : List T} (h1 : vpt ps ts = 0) (h2 : vpt qs ts = 0) : (pL false qs ts).filter (fun n => !hasB (pL false ps ts) n) = trL true ps qs ts := by
  rw [pL_ok h1, pL_ok h2, plc_without]
  unfold trL
  congr 1
  refine List.map_congr_left fun t _ => ?_
  cases pas ps t <;> cases pas qs t <;> rfl
theorem plc_four (f g : T → Bool) : ∀ (ts : List T) (k : Nat), k ≤ ts.length → (plcTo (ts.map fun t => g t == false) k).length + (plcTo (ts.map fun t => f t == false && g t != false) k).length = (plcTo (ts.map fun t => f t == false) k).length + (plcTo (ts.map fun t => f t == true && g t != true) k).length
  | ts, 0, _ => by simp [plcTo]
  | ts, k + 1, h => by
    have ih := plc_four f g ts k (by omega)
    obtain ⟨t, ht⟩ := get_of_lt (show k < ts.length by omega)
    have e : ∀ F : T → Bool, (plcTo (ts.map F) (k + 1)).length = (plcTo (ts.map F) k).length + (if F t then 1 else 0) := by
      intro F
      cases hF : F t
      · rw [plcTo_no (by rw [List.getElem?_map, ht]; simp [hF])]; simp
      · rw [plcTo_yes (by rw [List.getElem?_map, ht]; simp [hF]), List.length_append]; simp
    rw [e, e, e, e]
    have h4 : ∀ b c : Bool, (if (c == false) = true then 1 else 0) + (if (b == false && c != false) = true then 1 else 0) = (if (b == false) = true then 1 else 0) + (if (b == true && c != true) = true then 1 else 0) := by decide
    have h5 := h4 (f t) (g t)
    omega
/-- As many fail after as before, less what is won, and what is lost. -/
theorem tr_count {ps qs : List L} {ts : List T} (h1 : vpt ps ts = 0) (h2 : vpt qs ts = 0) : (((pL false qs ts).length : Nat) : Int) = ((pL false ps ts).length : Nat) - ((trL false ps qs ts).length : Nat) + ((trL true ps qs ts).length : Nat) := by
  have h := plc_four (fun t => pas ps t) (fun t => pas qs t) ts ts.length (Nat.le_refl _)
  rw [pL_ok h1, pL_ok h2]
  unfold trL plc
  rw [List.length_map, List.length_map, List.length_map, List.length_map]
  omega
theorem tr_len (b : Bool) (ps qs : List L) (ts : List T) : (trL b ps qs ts).length ≤ ts.length := by
  unfold trL plc
  rw [List.length_map]
  exact plcTo_length _ _
theorem tr_count2 {ps qs : List L} {ts : List T} (h1 : vpt ps ts = 0) (h2 : vpt qs ts = 0) : (trL false ps qs ts).length ≤ (pL false ps ts).length := by
  rw [← fx_eq h1 h2]
  exact List.length_filter_le _ _
/-- What is good fixes all that fails, and breaks nothing. -/
theorem gd_fixes {ps : List L} {ts : List T} {z : List E} (h1 : vpt ps ts = 0) (hg : gdB ps ts z = true) : trL false ps (doL ps z) ts = pL false ps ts ∧ trL true ps (doL ps z) ts = [] := by
  have ha := List.all_eq_true.1 hg
  constructor
  · rw [pL_ok h1]
    unfold trL
    congr 1
    refine List.map_congr_left fun t ht => ?_
    have := ha t ht
    rw [this]
    cases pas ps t <;> rfl
  · unfold trL
    refine List.eq_nil_of_length_eq_zero (plc_nil.2 fun b hb => ?_)
    obtain ⟨t, ht, rfl⟩ := List.mem_map.1 hb
    rw [ha t ht]
    simp
/-- The errors of a program and tests, of those of a patch and tests. -/
theorem vpx_vpt {ps : List L} {xs : List E} {ts : List T} (h : vpx ps xs (vts ts) = 0) : vpt ps ts = 0 ∧ vpt (doL ps xs) ts = 0 ∧ vts ts = 0 ∧ vpx ps xs 0 = 0 := by
  obtain ⟨h1, h2, h3, h4⟩ := vpx_ok h
  refine ⟨by unfold vpt; rw [h1, h3]; rfl, by unfold vpt; rw [doL_vp h1 (okX_of h).ln, h3]; rfl, h3, by rw [h3] at h; exact h⟩

/-- What Fixes (false) and Breaks (true) answer. -/
def trR (b : Bool) (ps : List L) (xs : List E) (ts : List T) : List Int := if vpx ps xs (vts ts) = 0 then trL b ps (doL ps xs) ts else []

/-- Leaving out what is not needed, from the end: what is kept once the edits from i on have been tried. -/
def rdS (g : List E → Bool) (z : List E) (i : Nat) : List E := if g (z.take i ++ z.drop (i + 1)) then z.take i ++ z.drop (i + 1) else z
def rdTo (g : List E → Bool) (xs : List E) : Nat → List E
  | 0 => xs
  | k + 1 => rdS g (rdTo g xs k) (xs.length - (k + 1))
/-- What is left of a patch. -/
def rdL (g : List E → Bool) (xs : List E) : List E := rdTo g xs xs.length
theorem rdS_sub (g : List E → Bool) (z : List E) (i : Nat) : (rdS g z i).Sublist z := by
  unfold rdS
  split
  · conv => rhs; rw [← List.take_append_drop i z]
    refine List.Sublist.append (List.Sublist.refl _) ?_
    rw [show i + 1 = i + 1 from rfl, ← List.drop_drop]
    exact List.drop_sublist _ _
  · exact List.Sublist.refl _
theorem rdTo_sub (g : List E → Bool) (xs : List E) : ∀ k, (rdTo g xs k).Sublist xs
  | 0 => List.Sublist.refl _
  | k + 1 => (rdS_sub g _ _).trans (rdTo_sub g xs k)
theorem rdTo_len (g : List E → Bool) (xs : List E) : ∀ k, k ≤ xs.length → xs.length - k ≤ (rdTo g xs k).length
  | 0, _ => by simp [rdTo]
  | k + 1, h => by
    have ih := rdTo_len g xs k (by omega)
    rw [rdTo]
    unfold rdS
    split
    · rw [List.length_append, List.length_take, List.length_drop]
      omega
    · omega
theorem rdTo_good {g : List E → Bool} {xs : List E} (h : g xs = true) : ∀ k, g (rdTo g xs k) = true
  | 0 => h
  | k + 1 => by
    rw [rdTo]
    unfold rdS
    split
    · rename_i h1; exact h1
    · exact rdTo_good h k
theorem rd_good {g : List E → Bool} {xs : List E} (h : g xs = true) : g (rdL g xs) = true := rdTo_good h _
theorem rd_sub (g : List E → Bool) (xs : List E) : (rdL g xs).Sublist xs := rdTo_sub g xs _
/-- What Reduce answers. -/
def rdC (ps : List L) (xs : List E) (ts : List T) : Int := if vpx ps xs (vts ts) = 0 then (if gdB ps ts xs then 0 else 6) else vpx ps xs (vts ts)
def rdR (ps : List L) (xs : List E) (ts : List T) : List E := if rdC ps xs ts = 0 then rdL (gdB ps ts) xs else []
theorem rdC_ok {ps : List L} {xs : List E} {ts : List T} (h : rdC ps xs ts = 0) : vpx ps xs (vts ts) = 0 ∧ gdB ps ts xs = true := by
  unfold rdC at h
  split at h
  · rename_i h0
    split at h
    · rename_i h1; exact ⟨h0, h1⟩
    · cases h
  · rename_i h0; exact absurd h h0

end Go.Proofs.Ytikblaebfpdngaa
