/- Several texts in one. -/
import Derived.Test.YtfclfmloceddfaaGreatPtS
import Derived.Maps.AppendAt
import Derived.Laws.AppendOwnNone
import Derived.Deep.DeepCutAuto
import Derived.Deep.RegionHeld
/- parts of patches: contract. -/
set_option linter.unusedVariables false
set_option linter.unusedSimpArgs false
namespace Go.Proofs.YtfclfmloceddfaaGreat
open Go.RowKit Tinker

/-- append to an own row: the row grows in place, or a new block is laid and all else stands. -/
theorem wp_append_new {w : World} {o : Oper} {a : Act} {K : Act → World → Prop} {Q : Exit → Act → World → Prop} (s x : Operand) (t : TypeId)
    (ho : o.op = .call { callee := .builtin .append, args := #[s, x], argTypes := #[t, t] })
    (base : Nat) (e : TypeId) (i : TypeInfo) (z : Value) (size bytes : Nat) (ht : Tryz.prog.underlying t = some (.slice e)) (hi : Tryz.prog.info? e = some i) (hz : i.zero = some z)
    (hsize : i.size = size) (hby : i.bytes = bytes) (hzs : z.cells.size = size) (hsz : 0 < size)
    (v : Value) (n : Nat) (xs : List Value) (hs : a.eval s = v) (hown : w.ownsRow base e size v n xs)
    (ad : Addr) (m c : Nat) (news : List Value) (hx : a.eval x = .slice (some ad) m c) (hl : news.length = m * size) (hnews : ∀ j u, news[j]? = some u → w.cell? (ad.add j) = some u) (h1 : ∀ u ∈ news, u.oneCell' = true)
    (h63 : n + m ≤ maxLen) (hbytes : (n + m) * bytes ≤ 140737488355328) (hbase : base ≤ w.heap.size)
    (h : ∀ v' w', w'.ownsRow base e size v' (n + m) (xs ++ news) → w.grownBy w' v.ownBlock → (v'.ownBlock = v.ownBlock ∨ v'.ownBlock = some w.heap.size ∧ w.grownBy w' none) → K (a.put o.dst v') w') : o.wp Tryz.prog a w K Q := by
  obtain ⟨v', w', hr, h2, h3, h4, h5⟩ := run_append_own_at (P := Tryz.prog) w base t o.type e i z size bytes ht hi hz hsize hby hzs hsz v n xs hown ad m c news hl hnews h1 h63 hbytes hbase
  have key : v'.ownBlock = v.ownBlock ∨ v'.ownBlock = some w.heap.size ∧ w.grownBy w' none := by
    rcases h5 with h5 | h5
    · exact .inl h5
    · right
      refine ⟨h5, ?_⟩
      rcases hown.2 with ⟨rfl, rfl⟩ | ⟨g, cap, cur, rfl, hbg, hg, hnc, hcm, hcs, htake⟩
      · exact h3
      · subst hsize
        subst hby
        have hgl := hp_lt hg
        by_cases hroom : n + m ≤ cap
        · exfalso
          have hfit : n * i.size + news.length ≤ cur.size := by rw [hl, hcs, ← Nat.add_mul]; exact Nat.mul_le_mul_right _ hroom
          have hr2 := run_append_room (P := Tryz.prog) w t o.type e i ht hi g n cap cur hg ad m c news hl hnews h1 hroom hfit
          rw [hr2] at hr
          injection hr with e1 e2
          subst e1
          have : some g = some w.heap.size := h5
          injection this with this
          omega
        · have holds : ∀ j u, xs[j]? = some u → w.cell? ((⟨g, 0, none⟩ : Addr).add j) = some u := hown.cells (g := g) rfl
          have hr2 := run_append_grow (P := Tryz.prog) w t o.type e i z ht hi hz ⟨g, 0, none⟩ n cap xs hown.1 holds ad m c news hl hnews (by omega) (by simp only [maxLen] at h63; omega) (growslice_fits (by omega) hbytes)
          rw [hr2] at hr
          injection hr with e1 e2
          subst e2
          exact ⟨rfl, rfl, rfl, by simp, fun k hk _ => heap_alloc_old w.drew _ hk⟩
  unfold Oper.wp execOp
  simp only [ho, resolve, invoke, builtin, Sem.run_bind, Sem.run_pure, Result.andThen_ok, List.map_toArray, List.map_cons, List.map_nil, hs, hx, hr]
  exact h v' w' h2 h3 key

set_option maxRecDepth 100000 in
set_option maxHeartbeats 400000 in
theorem cloneEdits_any (a : Option Addr) (cap : Nat) (xs : List E) (w : World) (hp : EditsAt w a xs) (hm : xs.length ≤ 1000) :
    Calls Tryz.prog 69 #[.slice a xs.length cap] w (GivesEdits xs w) := by
  obtain ⟨i0, hi, hz0, hz1, hz2⟩ := info_parts info_edit
  cases a with
  | none =>
    have hps := hp.none
    subst hps
    have hnil := fun (w : World) => Lib.run_eql_slice_nil (P := Tryz.prog) w 27 49 none 0 cap 0 0 Tryz.underlying27
    clear hp hm
    go_enter Tryz.func69, Tryz.ntmps69
    go_wp2_with fail
    go_ret
    exact ⟨none, 0, rfl, World.ownsRow_nil _ _ _ _, Below.refl _ _⟩
  | some ad =>
    have HC := Lib.hid hp.cells
    have hnil := fun (w : World) => Lib.run_eql_slice_nil (P := Tryz.prog) w 27 49 (some ad) xs.length cap 0 0 Tryz.underlying27
    have hown := World.ownsRow_lit (base := w.heap.size) (e := 49) (size := 5) w #[] 0 (Nat.le_refl _) (by simp [maxLen]) (by simp)
    clear hp
    go_enter Tryz.func69, Tryz.ntmps69
    go_wp2_with (at_builtin; (refine wpList_append_own _ rfl (.tmp 5) (.tmp 6) 27 rfl w.heap.size 49 i0 (.agg #[.int .i64 0, .int .i64 0, .int .i64 0, .int .i64 0, .int .i64 0]) 5 40 Tryz.underlying27 hi hz0 hz1 hz2 rfl (by decide) _ 0 [] rfl hown ad xs.length cap (ec xs) rfl ?c1 ?c2 ?c3 ?c4 ?c5 ?c6 ?_))
    case c1 => exact ec_length xs
    case c2 => intro j u hu; exact cell_alloc_keep (HC.out j u hu)
    case c3 => exact ec_one xs
    case c4 => simp [maxLen]; omega
    case c5 => omega
    intro v' w1 hown1 hgrow _
    have hB : Below w.heap.size w w1 := ((Below.refl _ _).alloc (Nat.le_refl _) _).grown hgrow (by simp) (by rintro k hk; simp [Value.ownBlock] at hk; omega)
    have HO := Lib.hid hown1
    clear hown1 hown hgrow
    go_wp2
    go_ret
    exact givesEdits_of rfl HO.out hB

/-- The cells of an edit. -/
def eV (e : E) : Array Value := #[.int .i64 e.at_, .int .i64 e.ln.op, .int .i64 e.ln.to, .int .i64 e.ln.a, .int .i64 e.ln.b]
theorem ec_sing (e : E) : ec [e] = [.int .i64 e.at_, .int .i64 e.ln.op, .int .i64 e.ln.to, .int .i64 e.ln.a, .int .i64 e.ln.b] := rfl

/-- The state inside the inner loop. -/
structure PtI (w : World) (B g0 n0 : Nat) (e : E) (v : Value) (fs : List (List E)) (xs : List Value) (W : World) : Prop where
  row : RowsIE w v fs xs W
  box : W.heap[B]? = some (.cells (eV e) 49 (0, 0))
  off : v.ownBlock ≠ some B
  snap : ∀ j u, j < n0 → xs[j]? = some u → W.cell? ⟨g0, j, none⟩ = some u
  glt : g0 < W.heap.size
  long : n0 ≤ xs.length
theorem PtI.low {w : World} {B g0 n0 : Nat} {e : E} {v : Value} {fs : List (List E)} {xs : List Value} {W W' : World} (h : PtI w B g0 n0 e v fs xs W) (hb : Below W.heap.size W W') : PtI w B g0 n0 e v fs xs W' :=
  ⟨h.row.low hb, hp_below h.box hb (hp_lt h.box), h.off, fun j u hj hu => (hb.cell (p := ⟨g0, j, none⟩) h.glt).trans (h.snap j u hj hu), Nat.lt_of_lt_of_le h.glt hb.size, h.long⟩
theorem PtI.push {w : World} {B g0 n0 : Nat} {e : E} {v v' : Value} {fs : List (List E)} {xs : List Value} {W W3 : World} {a : Option Addr} {c : Nat} {zs : List E} (h : PtI w B g0 n0 e v fs xs W) (hz : OwnE W w.heap.size v.ownBlock a zs)
    (hown : W3.ownsRow w.heap.size 27 1 v' (fs.length + 1) (xs ++ [.slice a zs.length c])) (hgrow : W.grownBy W3 v.ownBlock) (hat : v'.ownBlock = v.ownBlock ∨ v'.ownBlock = some W.heap.size ∧ W.grownBy W3 none) :
    PtI w B g0 n0 e v' (fs ++ [zs]) (xs ++ [.slice a zs.length c]) W3 := by
  have hbl := hp_lt h.box
  refine ⟨h.row.push hz hown hgrow (hat.imp id And.left), ?_, ?_, ?_, Nat.lt_of_lt_of_le h.glt hgrow.size, by rw [List.length_append]; have := h.long; omega⟩
  · exact (hgrow.block B hbl (fun e => h.off e.symm)).trans h.box
  · rcases hat with e1 | ⟨e1, _⟩
    · rw [e1]; exact h.off
    · rw [e1]; intro e2; injection e2 with e2; omega
  · intro j u hj hu
    have hl := h.long
    rw [List.getElem?_append_left (by omega)] at hu
    have h0 := h.snap j u hj hu
    rcases hat with e1 | ⟨e1, hg2⟩
    · by_cases hv : v.ownBlock = some g0
      · rw [hv] at e1
        obtain ⟨a', c', rfl⟩ := own_slice hown
        obtain ⟨g, hg⟩ := own_form hown (by omega)
        subst hg
        have e2 : some g = some g0 := e1
        injection e2 with e2
        subst e2
        exact own_cell hown (by rw [List.getElem?_append_left (by omega)]; exact hu)
      · exact hgrow.cell h0 (fun e => hv e.symm)
    · exact hg2.cell h0 (by simp)

end Go.Proofs.YtfclfmloceddfaaGreat

/- parts of patches: contract. -/
set_option linter.unusedVariables false
set_option linter.unusedSimpArgs false
namespace Go.Proofs.YtfclfmloceddfaaGreat
open Go.RowKit Tinker

/-- New parts in memory: all parts, sorted. -/
def GivesParts (xs : List E) (w : World) (e : Ending) (w' : World) : Prop :=
  ∃ (a : Option Addr) (c : Nat) (sp : List (List E)), e = .returned (.slice a sp.length c) ∧ sp.Perm (ptL xs) ∧ (sp.Pairwise fun a b => befE b a = false) ∧ RowsEAt w' a sp ∧ Below w.heap.size w w'
theorem pt_small {xs z : List E} (h : z ∈ ptL xs) (h4 : xs.length ≤ 4) : z.length ≤ 4 := Nat.le_trans ((ptL_mem xs z).1 h).length_le h4
theorem pt_len {xs : List E} (h4 : xs.length ≤ 4) : (ptL xs).length ≤ 16 := by
  rw [ptL_len]
  exact Nat.pow_le_pow_right (n := 2) (by omega) h4
theorem pt_pos (xs : List E) : 0 < (ptL xs).length := by rw [ptL_len]; exact Nat.two_pow_pos _
theorem boxE_load (W : World) (B : Nat) (e : E) (h : W.heap[B]? = some (.cells (eV e) 49 (0, 0))) : W.cell? ⟨B, 0, none⟩ = some (.int .i64 e.at_) ∧ W.cell? ⟨B, 1, none⟩ = some (.int .i64 e.ln.op) ∧ W.cell? ⟨B, 2, none⟩ = some (.int .i64 e.ln.to) ∧ W.cell? ⟨B, 3, none⟩ = some (.int .i64 e.ln.a) ∧ W.cell? ⟨B, 4, none⟩ = some (.int .i64 e.ln.b) :=
  ⟨hp_cell h (by rfl), hp_cell h (by rfl), hp_cell h (by rfl), hp_cell h (by rfl), hp_cell h (by rfl)⟩
theorem cells_newE (W : World) (e : E) : ∀ j u, (ec [e])[j]? = some u → (W.alloc (.cells (eV e) 49)).cell? ((⟨W.heap.size, 0, none⟩ : Addr).add j) = some u := by
  intro j u hu
  have e1 : (⟨W.heap.size, 0, none⟩ : Addr).add j = ⟨W.heap.size, j, none⟩ := by simp [Addr.add]; omega
  rw [e1]
  refine hp_cell (hp_new rfl) ?_
  rw [ec_sing] at hu
  unfold eV
  simpa using hu
theorem cells_keepE {W W' : World} {g j : Nat} {u : Value} (hB : Below W.heap.size W W') (h : W.cell? ((⟨g, 0, none⟩ : Addr).add j) = some u) : W'.cell? ((⟨g, 0, none⟩ : Addr).add j) = some u :=
  (hB.cell (World.block_lt_of_cell? W _ h)).trans h

set_option maxRecDepth 100000 in
set_option maxHeartbeats 8000000 in
theorem parts_any (a : Option Addr) (cap : Nat) (ys : List E) (w : World) (hx : EditsAt w a ys) (h4 : ys.length ≤ 4) :
    Calls Tryz.prog 50 #[.slice a ys.length cap] w (GivesParts ys w) := by
  obtain ⟨i0, hi, hz0, hz1, hz2⟩ := info_parts info_edit
  obtain ⟨j0, hj, jz0, jz1, jz2⟩ := info_parts info_edits
  have HCLA := Lib.hid (fun a c xs w h (hl : xs.length ≤ 4) => cloneEdits_any a c xs w h (by omega))
  go_enter Tryz.func50, Tryz.ntmps50
  go_wp2_with fail
  have hR0 : RowsIE w (.slice (some ⟨w.heap.size, 0, none⟩) 1 1) (ptL (ys.take 0)) [.slice none 0 0] (w.alloc (.cells #[.slice none 0 0] 27)) := by
    refine ⟨?_, ?_, (Below.refl _ _).alloc (Nat.le_refl _) _⟩
    · exact World.ownsRow_lit (base := w.heap.size) (e := 27) (size := 1) w #[.slice none 0 0] 1 (Nat.le_refl _) (by simp [maxLen]) (by simp)
    · intro k zs hk
      match k, hk with
      | 0, hk =>
        have e : zs = [] := by simpa [ptL] using hk.symm
        subst e
        exact ⟨none, 0, rfl, .inl rfl⟩
      | k + 1, hk => simp [ptL] at hk
  have HR0 := Lib.hid hR0
  clear hR0
  go_loopw [3, 11] (fun s3 s11 wr => ∃ (k : Nat) (xs : List Value), k ≤ ys.length ∧ s11 = .int .i64 k ∧ RowsIE w s3 (ptL (ys.take k)) xs wr) (fun _ s11 _ => ys.length - (intOf s11).toNat)
  case atStart => exact ⟨0, _, Nat.zero_le _, rfl, HR0.out⟩
  case round =>
    clear HR0
    obtain ⟨k, xs0, hk, rfl, hI⟩ := hrel
    obtain ⟨a0, cp0, rfl⟩ := own_slice hI.out
    obtain ⟨g0, rfl⟩ := own_form hI.out (pt_pos _)
    by_cases hlt : k < ys.length
    · obtain ⟨b, off, e, rfl, hlb, he, c0, c1, c2, c3, c4⟩ := (hx.below hI.below (Nat.le_refl _)).at_ hlt
      have hal : Below wr.heap.size wr (wr.alloc (.cells (eV e) 49)) := (Below.refl _ _).alloc (Nat.le_refl _) _
      have hI2 := hI.low hal
      have hP0 : PtI w wr.heap.size g0 (ptL (ys.take k)).length e (.slice (some ⟨g0, 0, none⟩) (ptL (ys.take k)).length cp0) (ptL (ys.take k)) xs0 (wr.alloc (.cells (eV e) 49)) :=
        ⟨hI2, hp_new rfl, (by intro e2; have h9 := (hI.out.lt _ e2).2; omega), fun j u hj hu => own_cell hI2.out hu, own_lt hI2.out, (by have h9 := hI2.out.1; omega)⟩
      have HST := Lib.hid (show ptL (ys.take (k + 1)) = ptL (ys.take k) ++ (ptL (ys.take k)).map (fun z => z ++ [e]) by rw [List.take_add_one, he]; exact ptL_snoc _ _)
      have HSM := Lib.hid (fun z (hz : z ∈ ptL (ys.take k)) => pt_small hz (by rw [List.length_take]; omega))
      have h16 := pt_len (xs := ys.take k) (by rw [List.length_take]; omega)
      have HP0 := Lib.hid hP0
      clear hI hI2 hal he hP0
      generalize hpre : ptL (ys.take k) = pre at HST HSM h16 HP0
      clear hpre
      unfold eV at HP0
      go_wp2_with fail
      have HP0 : Hid (PtI w wr.heap.size g0 pre.length e (.slice (some ⟨g0, 0, none⟩) pre.length cp0) pre xs0 (wr.alloc (.cells (eV e) 49))) := HP0
      generalize hBB : wr.heap.size = B at HP0
      go_loopw [3, 17] (fun s3 s17 wx => ∃ (m : Nat) (xs1 : List Value), m ≤ pre.length ∧ s17 = .int .i64 m ∧ PtI w B g0 pre.length e s3 (pre ++ (pre.take m).map (fun z => z ++ [e])) xs1 wx) (fun _ s17 _ => pre.length - (intOf s17).toNat)
      case atStart => exact ⟨0, xs0, Nat.zero_le _, rfl, by rw [List.take_zero, List.map_nil, List.append_nil]; exact HP0.out⟩
      case round =>
        clear HP0
        obtain ⟨m, xs1, hm, rfl, hP⟩ := hrel
        by_cases hlm : m < pre.length
        · obtain ⟨z, hz⟩ := get_of_lt hlm
          obtain ⟨a', cc', hxs, hO⟩ := hP.row.st m z (by rw [List.getElem?_append_left hlm]; exact hz)
          have x0 := hP.snap m _ hlm hxs
          have hz4 := HSM.out z (mem_of_get hz)
          have hfl : (pre ++ (pre.take m).map (fun z => z ++ [e])).length ≤ 32 := by rw [List.length_append, List.length_map, List.length_take]; omega
          have HFS := Lib.hid (show pre ++ (pre.take (m + 1)).map (fun z => z ++ [e]) = (pre ++ (pre.take m).map (fun z => z ++ [e])) ++ [z ++ [e]] by rw [List.take_add_one, hz, List.map_append, List.append_assoc]; rfl)
          obtain ⟨va, vc, rfl⟩ := own_slice hP.row.out
          have hPd := hP.low (show Below wr.heap.size wr wr.drew from ⟨rfl, rfl, rfl, Nat.le_refl _, fun _ _ => rfl⟩)
          have HED := Lib.hid (show EditsAt wr.drew a' z from hO.at_)
          have HCL := Lib.hid (fun w h => HCLA.out a' cc' z w h hz4)
          have HP := Lib.hid hPd
          clear hP hPd hO hxs hz
          generalize pre ++ (pre.take m).map (fun z => z ++ [e]) = fs at HFS HP hfl
          go_upto_region 8 with fail
          refine wp_region_held_drew (S := fun W => W.heap[B]? = some (.cells (eV e) 49 (0, 0))) (by kernel_rfl) HP.out.box (fun hHeld => ?_)
          refine wpAnyH_take (i := 0) (oi := ?oiP0) (v := ?vP0) ?hiP0 (by kernel_rfl) (by kernel_rfl) (by kernel_rfl) ?hqP0 ?hyP0 hHeld ?restP0
          case hiP0 => exact rfl
          case hqP0 => exact fun _ _ _ h => h
          case hyP0 =>
            refine Or.inl ⟨by rfl, ?_⟩
            intro w hSw
            go_simp
            (try with_reducible rfl)
          try simp only [Act.put, List.getElem_toArray, List.getElem_cons_succ, List.getElem_cons_zero, List.setIfInBounds_toArray, List.set_cons_zero, List.set_cons_succ]
          refine wpAnyH_take (i := 1) (oi := ?oiP1) (v := ?vP1) ?hiP1 (by kernel_rfl) (by kernel_rfl) (by kernel_rfl) ?hqP1 ?hyP1 hHeld ?restP1
          case hiP1 => exact rfl
          case hqP1 => exact fun _ _ _ h => h
          case hyP1 =>
            refine Or.inl ⟨by rfl, ?_⟩
            intro w hSw
            go_simp
            (try with_reducible rfl)
          try simp only [Act.put, List.getElem_toArray, List.getElem_cons_succ, List.getElem_cons_zero, List.setIfInBounds_toArray, List.set_cons_zero, List.set_cons_succ]
          refine wpAnyH_take (i := 3) (oi := ?oiP3) (v := .agg (eV e)) ?hiP3 (by kernel_rfl) (by kernel_rfl) (by kernel_rfl) ?hqP3 ?hyP3 hHeld ?restP3
          case hiP3 => exact rfl
          case hqP3 => exact fun _ _ _ h => h
          case hyP3 =>
            refine Or.inl ⟨by rfl, ?_⟩
            intro w hSw
            obtain ⟨q0, q1, q2, q3, q4⟩ := boxE_load w B e hSw
            unfold eV
            go_simp
            (try with_reducible rfl)
          try simp only [Act.put, List.getElem_toArray, List.getElem_cons_succ, List.getElem_cons_zero, List.setIfInBounds_toArray, List.set_cons_zero, List.set_cons_succ]
          refine wpAnyH_ready (rs := [2, 4]) (by kernel_rfl) (by simp) ?_
          refine AllReadyH.cons (o := ?ozA2) ?hzA2 ?kzA2 (AllReadyH.cons (o := ?ozA4) ?hzA4 ?kzA4 AllReadyH.nil)
          case hzA2 => exact rfl
          case hzA4 => exact rfl
          case kzA2 =>
            intro K hK
            go_simp
            refine (HCL.out _ HED.out).mono ?_
            rintro ex wy ⟨ca, cc, rfl, ho, hB⟩
            refine hK.out _ _ (hp_below HP.out.box hB (hp_lt HP.out.box)) (fun hHeld => ?_)
            clear hK K
            try simp only [Act.put, List.getElem_toArray, List.getElem_cons_succ, List.getElem_cons_zero, List.setIfInBounds_toArray, List.set_cons_zero, List.set_cons_succ]
            refine wpAnyH_ready (rs := [4]) (by kernel_rfl) (by simp) ?_
            refine AllReadyH.cons (o := ?ozB4) ?hzB4 ?kzB4 AllReadyH.nil
            case hzB4 => exact rfl
            case kzB4 =>
              intro K hK
              unfold eV
              go_simp
              have HB := Lib.hid (hB.alloc hB.size (.cells (eV e) 49))
              have HX := Lib.hid (cells_newE wy e)
              have HO := Lib.hid (own_below ho ((Below.refl wy.heap.size wy).alloc (Nat.le_refl _) (.cells (eV e) 49)) (Nat.le_refl _))
              refine hK.out _ _ (hp_below HP.out.box HB.out (hp_lt HP.out.box)) (fun hHeld => ?_)
              clear hK K ho hB
              try simp only [Act.put, List.getElem_toArray, List.getElem_cons_succ, List.getElem_cons_zero, List.setIfInBounds_toArray, List.set_cons_zero, List.set_cons_succ]
              refine wpAnyH_ready (rs := [5]) (by kernel_rfl) (by simp) ?_
              refine AllReadyH.cons (o := ?ozCt5) ?hzCt5 ?kzCt5 AllReadyH.nil
              case hzCt5 => exact rfl
              case kzCt5 =>
                intro K hK
                rw [if_pos (by rfl)]
                refine wp_append_new (.tmp 23) (.tmp 25) 27 rfl wr.heap.size 49 i0 (.agg #[.int .i64 0, .int .i64 0, .int .i64 0, .int .i64 0, .int .i64 0]) 5 40 Tryz.underlying27 hi hz0 hz1 hz2 rfl (by decide) (.slice ca z.length cc) z.length (ec z) rfl HO.out ⟨wy.heap.size, 0, none⟩ 1 1 (ec [e]) rfl (ec_length _) HX.out (ec_one _) (by unfold maxLen; omega) (by omega) HB.out.size ?_
                intro v5 w5 hown5 hgrow5 _
                have hB5 := HB.out.grown hgrow5 HB.out.size (by rintro k hk; exact (HO.out.lt k hk).1)
                have HO5 := Lib.hid hown5
                have HB5 := Lib.hid hB5
                refine hK.out _ _ (hp_below HP.out.box hB5 (hp_lt HP.out.box)) (fun hHeld => ?_)
                clear hK K hown5 hgrow5 hB5 HO HX HB
                try simp only [Act.put, List.getElem_toArray, List.getElem_cons_succ, List.getElem_cons_zero, List.setIfInBounds_toArray, List.set_cons_zero, List.set_cons_succ]
                refine wpAnyH_ready (rs := [6]) (by kernel_rfl) (by simp) ?_
                refine AllReadyH.cons (o := ?ozCu6) ?hzCu6 ?kzCu6 AllReadyH.nil
                case hzCu6 => exact rfl
                case kzCu6 =>
                  intro K hK
                  obtain ⟨a5, c5, rfl⟩ := own_slice HO5.out
                  go_simp
                  have HB6 := Lib.hid (HB5.out.alloc HB5.out.size (.cells #[.slice a5 (z.length + 1) c5] 27))
                  have HC6 := Lib.hid (cell_one_new w5 (.slice a5 (z.length + 1) c5) 27)
                  have HO6 := Lib.hid (own_below HO5.out ((Below.refl w5.heap.size w5).alloc (Nat.le_refl _) (.cells #[.slice a5 (z.length + 1) c5] 27)) (Nat.le_refl _))
                  refine hK.out _ _ (hp_below HP.out.box HB6.out (hp_lt HP.out.box)) (fun hHeld => ?_)
                  clear hK K HO5 HB5
                  try simp only [Act.put, List.getElem_toArray, List.getElem_cons_succ, List.getElem_cons_zero, List.setIfInBounds_toArray, List.set_cons_zero, List.set_cons_succ]
                  refine wpAnyH_ready (rs := [7]) (by kernel_rfl) (by simp) ?_
                  refine AllReadyH.cons (o := ?ozCv7) ?hzCv7 ?kzCv7 AllReadyH.nil
                  case hzCv7 => exact rfl
                  case kzCv7 =>
                    intro K hK
                    rw [if_pos (by rfl)]
                    have hPL := HP.out.low HB6.out
                    have HPL := Lib.hid hPL
                    refine wp_append_new (.tmp 21) (.tmp 27) 91 rfl w.heap.size 27 j0 (.slice none 0 0) 1 24 Tryz.underlying91 hj jz0 jz1 jz2 rfl (by decide) (.slice va fs.length vc) fs.length xs1 rfl HPL.out.row.out ⟨w5.heap.size, 0, none⟩ 1 1 [.slice a5 (z.length + 1) c5] rfl rfl HC6.out (by simp [Value.oneCell']) (by unfold maxLen; omega) (by omega) HPL.out.row.below.size ?_
                    intro v7 w7 hown7 hgrow7 hat7
                    have hOE : OwnE (w5.alloc (.cells #[.slice a5 (z.length + 1) c5] 27)) w.heap.size (Value.slice va fs.length vc).ownBlock a5 (z ++ [e]) := by
                      have h1 := ownE_of (W := w5.alloc (.cells #[.slice a5 (z.length + 1) c5] 27)) (a := a5) (c := c5) (n := z.length + 1) (zs := z ++ [e]) (base := wr.heap.size) (e := 49) (by rw [ec_append]; exact HO6.out)
                      rcases h1 with h1 | ⟨b, h2, h3, h4, h5⟩
                      · exact .inl h1
                      · exact .inr ⟨b, h2, Nat.le_trans HP.out.row.below.size h3, fun e1 => by have h9 : b < wr.heap.size := (HP.out.row.out.lt b e1).2; omega, h5⟩
                    have hPP := hPL.push (c := c5) (zs := z ++ [e]) hOE (by rw [List.length_append]; exact hown7) hgrow7 hat7
                    have HPP := Lib.hid hPP
                    refine hK.out _ _ hPP.box (fun hHeld => ?_)
                    clear hK K hPL hown7 hgrow7 hat7 hOE hPP
                    try simp only [Act.put, List.getElem_toArray, List.getElem_cons_succ, List.getElem_cons_zero, List.setIfInBounds_toArray, List.set_cons_zero, List.set_cons_succ]
                    refine wpAnyH_ready (rs := [8]) (by kernel_rfl) (by simp) ?_
                    refine AllReadyH.cons (o := ?ozCw8) ?hzCw8 ?kzCw8 AllReadyH.nil
                    case hzCw8 => exact rfl
                    case kzCw8 =>
                      intro K hK
                      go_simp
                      refine hK.out _ _ HPP.out.box (fun hHeld => ?_)
                      clear hK K
                      try simp only [Act.put, List.getElem_toArray, List.getElem_cons_succ, List.getElem_cons_zero, List.setIfInBounds_toArray, List.set_cons_zero, List.set_cons_succ]
                      refine wpAnyH_done (by kernel_rfl) ?_ _
                      clear hHeld HP HC6 HO6 HB6 HED HCL
                      go_wp2_with fail
                      go_roundw
                      case rel => exact ⟨m + 1, _, by omega, by go_num, by rw [HFS.out]; exact HPP.out⟩
                      case measure => simp [intOf]; omega
          case kzA4 =>
            intro K hK
            unfold eV
            go_simp
            have hA : Below wr.heap.size wr.drew (wr.drew.alloc (.cells (eV e) 49)) := (show Below wr.drew.heap.size wr.drew _ from (Below.refl _ _).alloc (Nat.le_refl _) _)
            have hN := cells_newE wr.drew e
            have HED2 := Lib.hid (HED.out.below hA (Nat.le_refl _))
            refine hK.out _ _ (hp_below HP.out.box hA (hp_lt HP.out.box)) (fun hHeld => ?_)
            clear hK K
            try simp only [Act.put, List.getElem_toArray, List.getElem_cons_succ, List.getElem_cons_zero, List.setIfInBounds_toArray, List.set_cons_zero, List.set_cons_succ]
            refine wpAnyH_ready (rs := [2]) (by kernel_rfl) (by simp) ?_
            refine AllReadyH.cons (o := ?ozD2) ?hzD2 ?kzD2 AllReadyH.nil
            case hzD2 => exact rfl
            case kzD2 =>
              intro K hK
              go_simp
              refine (HCL.out _ HED2.out).mono ?_
              rintro ex wy ⟨ca, cc, rfl, ho, hB⟩
              have HB := Lib.hid (hA.trans (hB.mono hA.size))
              have HX := Lib.hid (show ∀ j u, (ec [e])[j]? = some u → wy.cell? ((⟨wr.heap.size, 0, none⟩ : Addr).add j) = some u from fun j u hu => cells_keepE hB (hN j u hu))
              have HO := Lib.hid (own_mono ho hA.size)
              refine hK.out _ _ (hp_below HP.out.box HB.out (hp_lt HP.out.box)) (fun hHeld => ?_)
              clear hK K ho hB hA hN
              try simp only [Act.put, List.getElem_toArray, List.getElem_cons_succ, List.getElem_cons_zero, List.setIfInBounds_toArray, List.set_cons_zero, List.set_cons_succ]
              refine wpAnyH_ready (rs := [5]) (by kernel_rfl) (by simp) ?_
              refine AllReadyH.cons (o := ?ozEt5) ?hzEt5 ?kzEt5 AllReadyH.nil
              case hzEt5 => exact rfl
              case kzEt5 =>
                intro K hK
                rw [if_pos (by rfl)]
                refine wp_append_new (.tmp 23) (.tmp 25) 27 rfl wr.heap.size 49 i0 (.agg #[.int .i64 0, .int .i64 0, .int .i64 0, .int .i64 0, .int .i64 0]) 5 40 Tryz.underlying27 hi hz0 hz1 hz2 rfl (by decide) (.slice ca z.length cc) z.length (ec z) rfl HO.out ⟨wr.heap.size, 0, none⟩ 1 1 (ec [e]) rfl (ec_length _) HX.out (ec_one _) (by unfold maxLen; omega) (by omega) HB.out.size ?_
                intro v5 w5 hown5 hgrow5 _
                have hB5 := HB.out.grown hgrow5 HB.out.size (by rintro k hk; exact (HO.out.lt k hk).1)
                have HO5 := Lib.hid hown5
                have HB5 := Lib.hid hB5
                refine hK.out _ _ (hp_below HP.out.box hB5 (hp_lt HP.out.box)) (fun hHeld => ?_)
                clear hK K hown5 hgrow5 hB5 HO HX HB
                try simp only [Act.put, List.getElem_toArray, List.getElem_cons_succ, List.getElem_cons_zero, List.setIfInBounds_toArray, List.set_cons_zero, List.set_cons_succ]
                refine wpAnyH_ready (rs := [6]) (by kernel_rfl) (by simp) ?_
                refine AllReadyH.cons (o := ?ozEu6) ?hzEu6 ?kzEu6 AllReadyH.nil
                case hzEu6 => exact rfl
                case kzEu6 =>
                  intro K hK
                  obtain ⟨a5, c5, rfl⟩ := own_slice HO5.out
                  go_simp
                  have HB6 := Lib.hid (HB5.out.alloc HB5.out.size (.cells #[.slice a5 (z.length + 1) c5] 27))
                  have HC6 := Lib.hid (cell_one_new w5 (.slice a5 (z.length + 1) c5) 27)
                  have HO6 := Lib.hid (own_below HO5.out ((Below.refl w5.heap.size w5).alloc (Nat.le_refl _) (.cells #[.slice a5 (z.length + 1) c5] 27)) (Nat.le_refl _))
                  refine hK.out _ _ (hp_below HP.out.box HB6.out (hp_lt HP.out.box)) (fun hHeld => ?_)
                  clear hK K HO5 HB5
                  try simp only [Act.put, List.getElem_toArray, List.getElem_cons_succ, List.getElem_cons_zero, List.setIfInBounds_toArray, List.set_cons_zero, List.set_cons_succ]
                  refine wpAnyH_ready (rs := [7]) (by kernel_rfl) (by simp) ?_
                  refine AllReadyH.cons (o := ?ozEv7) ?hzEv7 ?kzEv7 AllReadyH.nil
                  case hzEv7 => exact rfl
                  case kzEv7 =>
                    intro K hK
                    rw [if_pos (by rfl)]
                    have hPL := HP.out.low HB6.out
                    have HPL := Lib.hid hPL
                    refine wp_append_new (.tmp 21) (.tmp 27) 91 rfl w.heap.size 27 j0 (.slice none 0 0) 1 24 Tryz.underlying91 hj jz0 jz1 jz2 rfl (by decide) (.slice va fs.length vc) fs.length xs1 rfl HPL.out.row.out ⟨w5.heap.size, 0, none⟩ 1 1 [.slice a5 (z.length + 1) c5] rfl rfl HC6.out (by simp [Value.oneCell']) (by unfold maxLen; omega) (by omega) HPL.out.row.below.size ?_
                    intro v7 w7 hown7 hgrow7 hat7
                    have hOE : OwnE (w5.alloc (.cells #[.slice a5 (z.length + 1) c5] 27)) w.heap.size (Value.slice va fs.length vc).ownBlock a5 (z ++ [e]) := by
                      have h1 := ownE_of (W := w5.alloc (.cells #[.slice a5 (z.length + 1) c5] 27)) (a := a5) (c := c5) (n := z.length + 1) (zs := z ++ [e]) (base := wr.heap.size) (e := 49) (by rw [ec_append]; exact HO6.out)
                      rcases h1 with h1 | ⟨b, h2, h3, h4, h5⟩
                      · exact .inl h1
                      · exact .inr ⟨b, h2, Nat.le_trans HP.out.row.below.size h3, fun e1 => by have h9 : b < wr.heap.size := (HP.out.row.out.lt b e1).2; omega, h5⟩
                    have hPP := hPL.push (c := c5) (zs := z ++ [e]) hOE (by rw [List.length_append]; exact hown7) hgrow7 hat7
                    have HPP := Lib.hid hPP
                    refine hK.out _ _ hPP.box (fun hHeld => ?_)
                    clear hK K hPL hown7 hgrow7 hat7 hOE hPP
                    try simp only [Act.put, List.getElem_toArray, List.getElem_cons_succ, List.getElem_cons_zero, List.setIfInBounds_toArray, List.set_cons_zero, List.set_cons_succ]
                    refine wpAnyH_ready (rs := [8]) (by kernel_rfl) (by simp) ?_
                    refine AllReadyH.cons (o := ?ozEw8) ?hzEw8 ?kzEw8 AllReadyH.nil
                    case hzEw8 => exact rfl
                    case kzEw8 =>
                      intro K hK
                      go_simp
                      refine hK.out _ _ HPP.out.box (fun hHeld => ?_)
                      clear hK K
                      try simp only [Act.put, List.getElem_toArray, List.getElem_cons_succ, List.getElem_cons_zero, List.setIfInBounds_toArray, List.set_cons_zero, List.set_cons_succ]
                      refine wpAnyH_done (by kernel_rfl) ?_ _
                      clear hHeld HP HC6 HO6 HB6 HED HCL
                      go_wp2_with fail
                      go_roundw
                      case rel => exact ⟨m + 1, _, by omega, by go_num, by rw [HFS.out]; exact HPP.out⟩
                      case measure => simp [intOf]; omega
        · obtain rfl : m = pre.length := by omega
          rw [List.take_length] at hP
          have HP := Lib.hid hP
          clear hP
          go_wp2_with fail
          go_roundw
          case rel => exact ⟨k + 1, xs1, by omega, by go_num, by rw [HST.out]; exact HP.out.row⟩
          case measure => simp [intOf]; omega
    · obtain rfl : k = ys.length := by omega
      rw [List.take_length] at hI ⊢
      have h16 := pt_len h4
      have HS := Lib.hid (sortParts_any w wr g0 cp0 (ptL ys).length (ptL ys) xs0 rfl hI (fun z hz => pt_small hz h4) (by omega))
      clear hI
      go_wp2_with fail
      refine HS.out.mono ?_
      rintro ex w2 ⟨rfl, sp, hp, hs, hR, hB⟩
      have HE := Lib.hid (show sp.length = (ptL ys).length from hp.length_eq)
      have HG := Lib.hid (show GivesParts ys w (.returned (.slice (some ⟨g0, 0, none⟩) (ptL ys).length cp0)) w2 from ⟨_, cp0, sp, by rw [HE.out], hp, hs, hR, hB⟩)
      clear hp hs hR hB HS HE
      go_wp2_with fail
      go_ret
      exact HG.out

end Go.Proofs.YtfclfmloceddfaaGreat
