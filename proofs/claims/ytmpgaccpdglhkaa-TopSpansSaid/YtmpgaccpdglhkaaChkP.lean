/- Tests in the document's answers; Passes of both: contracts. -/
import Derived.Test.YtmpgaccpdglhkaaChkB
import Derived.Test.YtmpgaccpdglhkaaChkA
set_option linter.unusedVariables false
set_option linter.unusedSimpArgs false
namespace Go.Proofs.Ytmpgaccpdglhkaa
open Go.RowKit Tinker

theorem within3_any (out : Int) (w : World) : Calls Try.prog 120 #[.int .i64 out, .int .i64 0, .int .i64 3] w fun e w' => e = .returned (.bool (isReg out)) ∧ w = w' := rWithin2_any out 0 3 w

set_option maxRecDepth 100000 in
set_option maxHeartbeats 400000 in
theorem rMade_any (a b : Option Addr) (ca cb : Nat) (ps : List L) (s : List Int) (out : Int) (w : World) (hp : LinesAt w a ps) (hs : IntsAt w b s) (hz : vr ps s = 0) (ho : isReg out = true) :
    Calls Try.prog 101 #[.slice a ps.length ca, .slice b s.length cb, .int .i64 out] w fun e w' => e = .returned (.int .i64 (endP ps s out)) ∧ Below w.heap.size w w' := by
  have h4 := (vs_ok (vr_ok hz).2).1
  have hE := (runE_ok hz).1
  have HR := Lib.hid (fun w hp hs => rRun_any a b ca cb ps s w hp hs)
  have er : runL ps s = runE ps s := by unfold runL; rw [if_pos hz]
  rw [er, hz] at HR
  obtain ⟨r0, r3⟩ := isReg_iff.1 ho
  have HE := Lib.hid (show endP ps s out = (runE ps s).getD out.toNat 0 from rfl)
  generalize endP ps s out = V at HE
  generalize runE ps s = E at HR HE hE
  have H4 := Lib.hid hE
  clear er hz ho h4 hE
  go_enter Try.func101, Try.ntmps101
  go_wp2_with fail
  refine (HR.out _ hp hs).mono ?_
  intro e w1 hG
  obtain ⟨a1, k1, rfl, hi1, hB1⟩ := hG
  obtain ⟨eb, eo, x, rfl, hlb, hx, cx⟩ := hi1.at_ (show out.toNat < E.length by rw [H4.out]; omega)
  have HX := Lib.hid (show x = V by rw [HE.out, getD_of_get hx])
  have l1 : out < (E.length : Int) := by rw [H4.out]; omega
  clear hi1 hx
  go_wp2_with fail
  go_ret
  exact ⟨ret_int HX.out, hB1⟩

/-- What Passes answers. -/
def passV (ps : List L) (t : T) : Bool := if vpt ps [t] = 0 then pas ps t else false

end Go.Proofs.Ytmpgaccpdglhkaa
