/-
  No cell of these rows narrows 'for every input' (looked for: loops, veiled, ifaces, maps, wideKeys, modest, calm, conditions, laid).
  DERIVED. THE GIVEN ROWS OF THIS SEAT. 14 by the template 'for every input the law returns true; each argument reads behind the call as it read before'; 0 by the template 'total and deterministic' (their statements: YtmigkbimdjiigaaTotals.lean).
  GIVEN WITH THE SEED: the statements are not yours to turn. If you find one false, say at which input.
  Laid BY PROGRAM, IN A SANDBOX (cutbox-rows.mjs): the forced cells as the released guide's own fill.sh prints them over the translation 0fa96eb5a9008c7e… (all of the seat's roots in one cut). By AI agents, Wed Nov 11 2026. No macro, syntax, notation, axiom, sorry.
-/
import Derived.Test.YtmigkbimdjiigaaChecked
import GoSem.Claim
import GoSem.ClaimJoined
import GoSem.ClaimMapViews
import Derived.JoinedTies
import Derived.KernelRfl
namespace Go.Proofs.Ytmigkbimdjiigaa
/- THE CELL 'sum', in the pinned program and in every row, IS THE sha256 OF THE DUMP (.gsa) THAT YtmigkbimdjiigaaProg.lean LOADS. Nothing in Lean hashes anything: it is a label: what it is worth is what the hold of that sum in a sandbox is worth. -/
noncomputable def Try.pinned : Pinned := { name := "ytmigkbimdjiigaa", sum := "0fa96eb5a9008c7e88d655a17ac78c46b2a23413a6839f6c97eca84fc7bc45f4", checked := Try.checked }
namespace Rows
def none {H : Type} : Left H := { results := [], args := [] }

/-- 'tinkerlaw08.SuiteMeets': WHATEVER THE INPUT: true; the input reads as it did. -/
def suiteMeetsSpec : ChangeSpec := { name := "suiteMeets", fn := fun _ => fun
  | [d1, d2] => { results := [.lit (.bool true)], args := [d1, d2] }
  | _ => none }
def suiteMeetsRow : OpenClaim := { program := "ytmigkbimdjiigaa", sum := "0fa96eb5a9008c7e88d655a17ac78c46b2a23413a6839f6c97eca84fc7bc45f4", func := "tinker/tinkerlaw08.SuiteMeets", spec := "suiteMeets", unfollowed := true, recurses := true, apart := false }
def SuiteMeetsSaid : Prop := suiteMeetsRow.holds Try.pinned (OpenSpec.ofChange suiteMeetsSpec)

/-- ITS FALSE NEIGHBOUR: 'it returns false'. Refute it at one input. -/
def suiteMeetsWrong : ChangeSpec := { name := "suiteMeets", fn := fun _ => fun
  | [d1, d2] => { results := [.lit (.bool false)], args := [d1, d2] }
  | _ => none }
def SuiteMeetsWrongFalsely : Prop := suiteMeetsRow.holds Try.pinned (OpenSpec.ofChange suiteMeetsWrong)

/-- 'tinkerlaw08.SuiteChecks': WHATEVER THE INPUT: true; the input reads as it did. -/
def suiteChecksSpec : ChangeSpec := { name := "suiteChecks", fn := fun _ => fun
  | [d1, d2] => { results := [.lit (.bool true)], args := [d1, d2] }
  | _ => none }
def suiteChecksRow : OpenClaim := { program := "ytmigkbimdjiigaa", sum := "0fa96eb5a9008c7e88d655a17ac78c46b2a23413a6839f6c97eca84fc7bc45f4", func := "tinker/tinkerlaw08.SuiteChecks", spec := "suiteChecks", unfollowed := true, recurses := true, apart := false }
def SuiteChecksSaid : Prop := suiteChecksRow.holds Try.pinned (OpenSpec.ofChange suiteChecksSpec)

/-- ITS FALSE NEIGHBOUR: 'it returns false'. Refute it at one input. -/
def suiteChecksWrong : ChangeSpec := { name := "suiteChecks", fn := fun _ => fun
  | [d1, d2] => { results := [.lit (.bool false)], args := [d1, d2] }
  | _ => none }
def SuiteChecksWrongFalsely : Prop := suiteChecksRow.holds Try.pinned (OpenSpec.ofChange suiteChecksWrong)

/-- 'tinkerlaw08.SuiteCovers': WHATEVER THE INPUT: true; the input reads as it did. -/
def suiteCoversSpec : ChangeSpec := { name := "suiteCovers", fn := fun _ => fun
  | [d] => { results := [.lit (.bool true)], args := [d] }
  | _ => none }
def suiteCoversRow : OpenClaim := { program := "ytmigkbimdjiigaa", sum := "0fa96eb5a9008c7e88d655a17ac78c46b2a23413a6839f6c97eca84fc7bc45f4", func := "tinker/tinkerlaw08.SuiteCovers", spec := "suiteCovers", unfollowed := true, recurses := true, apart := false }
def SuiteCoversSaid : Prop := suiteCoversRow.holds Try.pinned (OpenSpec.ofChange suiteCoversSpec)

/-- ITS FALSE NEIGHBOUR: 'it returns false'. Refute it at one input. -/
def suiteCoversWrong : ChangeSpec := { name := "suiteCovers", fn := fun _ => fun
  | [d] => { results := [.lit (.bool false)], args := [d] }
  | _ => none }
def SuiteCoversWrongFalsely : Prop := suiteCoversRow.holds Try.pinned (OpenSpec.ofChange suiteCoversWrong)

/-- 'tinkerlaw08.SuiteCheapests': WHATEVER THE INPUT: true; the input reads as it did. -/
def suiteCheapestsSpec : ChangeSpec := { name := "suiteCheapests", fn := fun _ => fun
  | [d1, d2] => { results := [.lit (.bool true)], args := [d1, d2] }
  | _ => none }
def suiteCheapestsRow : OpenClaim := { program := "ytmigkbimdjiigaa", sum := "0fa96eb5a9008c7e88d655a17ac78c46b2a23413a6839f6c97eca84fc7bc45f4", func := "tinker/tinkerlaw08.SuiteCheapests", spec := "suiteCheapests", unfollowed := true, recurses := true, apart := false }
def SuiteCheapestsSaid : Prop := suiteCheapestsRow.holds Try.pinned (OpenSpec.ofChange suiteCheapestsSpec)

/-- ITS FALSE NEIGHBOUR: 'it returns false'. Refute it at one input. -/
def suiteCheapestsWrong : ChangeSpec := { name := "suiteCheapests", fn := fun _ => fun
  | [d1, d2] => { results := [.lit (.bool false)], args := [d1, d2] }
  | _ => none }
def SuiteCheapestsWrongFalsely : Prop := suiteCheapestsRow.holds Try.pinned (OpenSpec.ofChange suiteCheapestsWrong)

/-- 'tinkerlaw08.SuiteExcludes': WHATEVER THE INPUT: true; the input reads as it did. -/
def suiteExcludesSpec : ChangeSpec := { name := "suiteExcludes", fn := fun _ => fun
  | [d] => { results := [.lit (.bool true)], args := [d] }
  | _ => none }
def suiteExcludesRow : OpenClaim := { program := "ytmigkbimdjiigaa", sum := "0fa96eb5a9008c7e88d655a17ac78c46b2a23413a6839f6c97eca84fc7bc45f4", func := "tinker/tinkerlaw08.SuiteExcludes", spec := "suiteExcludes", unfollowed := true, recurses := true, apart := false }
def SuiteExcludesSaid : Prop := suiteExcludesRow.holds Try.pinned (OpenSpec.ofChange suiteExcludesSpec)

/-- ITS FALSE NEIGHBOUR: 'it returns false'. Refute it at one input. -/
def suiteExcludesWrong : ChangeSpec := { name := "suiteExcludes", fn := fun _ => fun
  | [d] => { results := [.lit (.bool false)], args := [d] }
  | _ => none }
def SuiteExcludesWrongFalsely : Prop := suiteExcludesRow.holds Try.pinned (OpenSpec.ofChange suiteExcludesWrong)

/-- 'tinkerlaw08.SuiteEssentials': WHATEVER THE INPUT: true; the input reads as it did. -/
def suiteEssentialsSpec : ChangeSpec := { name := "suiteEssentials", fn := fun _ => fun
  | [d] => { results := [.lit (.bool true)], args := [d] }
  | _ => none }
def suiteEssentialsRow : OpenClaim := { program := "ytmigkbimdjiigaa", sum := "0fa96eb5a9008c7e88d655a17ac78c46b2a23413a6839f6c97eca84fc7bc45f4", func := "tinker/tinkerlaw08.SuiteEssentials", spec := "suiteEssentials", unfollowed := true, recurses := true, apart := false }
def SuiteEssentialsSaid : Prop := suiteEssentialsRow.holds Try.pinned (OpenSpec.ofChange suiteEssentialsSpec)

/-- ITS FALSE NEIGHBOUR: 'it returns false'. Refute it at one input. -/
def suiteEssentialsWrong : ChangeSpec := { name := "suiteEssentials", fn := fun _ => fun
  | [d] => { results := [.lit (.bool false)], args := [d] }
  | _ => none }
def SuiteEssentialsWrongFalsely : Prop := suiteEssentialsRow.holds Try.pinned (OpenSpec.ofChange suiteEssentialsWrong)

/-- 'tinkerlaw08.SuiteThins': WHATEVER THE INPUT: true; the input reads as it did. -/
def suiteThinsSpec : ChangeSpec := { name := "suiteThins", fn := fun _ => fun
  | [d] => { results := [.lit (.bool true)], args := [d] }
  | _ => none }
def suiteThinsRow : OpenClaim := { program := "ytmigkbimdjiigaa", sum := "0fa96eb5a9008c7e88d655a17ac78c46b2a23413a6839f6c97eca84fc7bc45f4", func := "tinker/tinkerlaw08.SuiteThins", spec := "suiteThins", unfollowed := true, recurses := true, apart := false }
def SuiteThinsSaid : Prop := suiteThinsRow.holds Try.pinned (OpenSpec.ofChange suiteThinsSpec)

/-- ITS FALSE NEIGHBOUR: 'it returns false'. Refute it at one input. -/
def suiteThinsWrong : ChangeSpec := { name := "suiteThins", fn := fun _ => fun
  | [d] => { results := [.lit (.bool false)], args := [d] }
  | _ => none }
def SuiteThinsWrongFalsely : Prop := suiteThinsRow.holds Try.pinned (OpenSpec.ofChange suiteThinsWrong)

/-- 'tinkerlaw08.SuiteLeasts': WHATEVER THE INPUT: true; the input reads as it did. -/
def suiteLeastsSpec : ChangeSpec := { name := "suiteLeasts", fn := fun _ => fun
  | [d1, d2] => { results := [.lit (.bool true)], args := [d1, d2] }
  | _ => none }
def suiteLeastsRow : OpenClaim := { program := "ytmigkbimdjiigaa", sum := "0fa96eb5a9008c7e88d655a17ac78c46b2a23413a6839f6c97eca84fc7bc45f4", func := "tinker/tinkerlaw08.SuiteLeasts", spec := "suiteLeasts", unfollowed := true, recurses := true, apart := false }
def SuiteLeastsSaid : Prop := suiteLeastsRow.holds Try.pinned (OpenSpec.ofChange suiteLeastsSpec)

/-- ITS FALSE NEIGHBOUR: 'it returns false'. Refute it at one input. -/
def suiteLeastsWrong : ChangeSpec := { name := "suiteLeasts", fn := fun _ => fun
  | [d1, d2] => { results := [.lit (.bool false)], args := [d1, d2] }
  | _ => none }
def SuiteLeastsWrongFalsely : Prop := suiteLeastsRow.holds Try.pinned (OpenSpec.ofChange suiteLeastsWrong)

/-- 'tinkerlaw08.SuiteWaits': WHATEVER THE INPUT: true; the input reads as it did. -/
def suiteWaitsSpec : ChangeSpec := { name := "suiteWaits", fn := fun _ => fun
  | [d1, d2] => { results := [.lit (.bool true)], args := [d1, d2] }
  | _ => none }
def suiteWaitsRow : OpenClaim := { program := "ytmigkbimdjiigaa", sum := "0fa96eb5a9008c7e88d655a17ac78c46b2a23413a6839f6c97eca84fc7bc45f4", func := "tinker/tinkerlaw08.SuiteWaits", spec := "suiteWaits", unfollowed := true, recurses := true, apart := false }
def SuiteWaitsSaid : Prop := suiteWaitsRow.holds Try.pinned (OpenSpec.ofChange suiteWaitsSpec)

/-- ITS FALSE NEIGHBOUR: 'it returns false'. Refute it at one input. -/
def suiteWaitsWrong : ChangeSpec := { name := "suiteWaits", fn := fun _ => fun
  | [d1, d2] => { results := [.lit (.bool false)], args := [d1, d2] }
  | _ => none }
def SuiteWaitsWrongFalsely : Prop := suiteWaitsRow.holds Try.pinned (OpenSpec.ofChange suiteWaitsWrong)

/-- 'tinkerlaw08.SuiteGreedies': WHATEVER THE INPUT: true; the input reads as it did. -/
def suiteGreediesSpec : ChangeSpec := { name := "suiteGreedies", fn := fun _ => fun
  | [d] => { results := [.lit (.bool true)], args := [d] }
  | _ => none }
def suiteGreediesRow : OpenClaim := { program := "ytmigkbimdjiigaa", sum := "0fa96eb5a9008c7e88d655a17ac78c46b2a23413a6839f6c97eca84fc7bc45f4", func := "tinker/tinkerlaw08.SuiteGreedies", spec := "suiteGreedies", unfollowed := true, recurses := true, apart := false }
def SuiteGreediesSaid : Prop := suiteGreediesRow.holds Try.pinned (OpenSpec.ofChange suiteGreediesSpec)

/-- ITS FALSE NEIGHBOUR: 'it returns false'. Refute it at one input. -/
def suiteGreediesWrong : ChangeSpec := { name := "suiteGreedies", fn := fun _ => fun
  | [d] => { results := [.lit (.bool false)], args := [d] }
  | _ => none }
def SuiteGreediesWrongFalsely : Prop := suiteGreediesRow.holds Try.pinned (OpenSpec.ofChange suiteGreediesWrong)

/-- 'tinkerlaw08.SuiteBests': WHATEVER THE INPUT: true; the input reads as it did. -/
def suiteBestsSpec : ChangeSpec := { name := "suiteBests", fn := fun _ => fun
  | [d] => { results := [.lit (.bool true)], args := [d] }
  | _ => none }
def suiteBestsRow : OpenClaim := { program := "ytmigkbimdjiigaa", sum := "0fa96eb5a9008c7e88d655a17ac78c46b2a23413a6839f6c97eca84fc7bc45f4", func := "tinker/tinkerlaw08.SuiteBests", spec := "suiteBests", unfollowed := true, recurses := true, apart := false }
def SuiteBestsSaid : Prop := suiteBestsRow.holds Try.pinned (OpenSpec.ofChange suiteBestsSpec)

/-- ITS FALSE NEIGHBOUR: 'it returns false'. Refute it at one input. -/
def suiteBestsWrong : ChangeSpec := { name := "suiteBests", fn := fun _ => fun
  | [d] => { results := [.lit (.bool false)], args := [d] }
  | _ => none }
def SuiteBestsWrongFalsely : Prop := suiteBestsRow.holds Try.pinned (OpenSpec.ofChange suiteBestsWrong)

/-- 'tinkerlaw08.SuiteWithouts': WHATEVER THE INPUT: true; the input reads as it did. -/
def suiteWithoutsSpec : ChangeSpec := { name := "suiteWithouts", fn := fun _ => fun
  | [d1, d2] => { results := [.lit (.bool true)], args := [d1, d2] }
  | _ => none }
def suiteWithoutsRow : OpenClaim := { program := "ytmigkbimdjiigaa", sum := "0fa96eb5a9008c7e88d655a17ac78c46b2a23413a6839f6c97eca84fc7bc45f4", func := "tinker/tinkerlaw08.SuiteWithouts", spec := "suiteWithouts", unfollowed := true, recurses := true, apart := false }
def SuiteWithoutsSaid : Prop := suiteWithoutsRow.holds Try.pinned (OpenSpec.ofChange suiteWithoutsSpec)

/-- ITS FALSE NEIGHBOUR: 'it returns false'. Refute it at one input. -/
def suiteWithoutsWrong : ChangeSpec := { name := "suiteWithouts", fn := fun _ => fun
  | [d1, d2] => { results := [.lit (.bool false)], args := [d1, d2] }
  | _ => none }
def SuiteWithoutsWrongFalsely : Prop := suiteWithoutsRow.holds Try.pinned (OpenSpec.ofChange suiteWithoutsWrong)

/-- 'tinkerlaw08.SuiteDrops': WHATEVER THE INPUT: true; the input reads as it did. -/
def suiteDropsSpec : ChangeSpec := { name := "suiteDrops", fn := fun _ => fun
  | [d1, d2] => { results := [.lit (.bool true)], args := [d1, d2] }
  | _ => none }
def suiteDropsRow : OpenClaim := { program := "ytmigkbimdjiigaa", sum := "0fa96eb5a9008c7e88d655a17ac78c46b2a23413a6839f6c97eca84fc7bc45f4", func := "tinker/tinkerlaw08.SuiteDrops", spec := "suiteDrops", unfollowed := true, recurses := true, apart := false }
def SuiteDropsSaid : Prop := suiteDropsRow.holds Try.pinned (OpenSpec.ofChange suiteDropsSpec)

/-- ITS FALSE NEIGHBOUR: 'it returns false'. Refute it at one input. -/
def suiteDropsWrong : ChangeSpec := { name := "suiteDrops", fn := fun _ => fun
  | [d1, d2] => { results := [.lit (.bool false)], args := [d1, d2] }
  | _ => none }
def SuiteDropsWrongFalsely : Prop := suiteDropsRow.holds Try.pinned (OpenSpec.ofChange suiteDropsWrong)

/-- 'tinkerlaw08.SuiteTwists': WHATEVER THE INPUT: true; the input reads as it did. -/
def suiteTwistsSpec : ChangeSpec := { name := "suiteTwists", fn := fun _ => fun
  | [d1, d2] => { results := [.lit (.bool true)], args := [d1, d2] }
  | _ => none }
def suiteTwistsRow : OpenClaim := { program := "ytmigkbimdjiigaa", sum := "0fa96eb5a9008c7e88d655a17ac78c46b2a23413a6839f6c97eca84fc7bc45f4", func := "tinker/tinkerlaw08.SuiteTwists", spec := "suiteTwists", unfollowed := true, recurses := true, apart := false }
def SuiteTwistsSaid : Prop := suiteTwistsRow.holds Try.pinned (OpenSpec.ofChange suiteTwistsSpec)

/-- ITS FALSE NEIGHBOUR: 'it returns false'. Refute it at one input. -/
def suiteTwistsWrong : ChangeSpec := { name := "suiteTwists", fn := fun _ => fun
  | [d1, d2] => { results := [.lit (.bool false)], args := [d1, d2] }
  | _ => none }
def SuiteTwistsWrongFalsely : Prop := suiteTwistsRow.holds Try.pinned (OpenSpec.ofChange suiteTwistsWrong)

/- THE SECOND FORM. 'bulk': how many values and letters a reading holds, each counted each time it is reached (what is shared counts as often as it is met; a slice's spare places count too). A statement '..UptoSaid' is the law's where the arguments, and the package variables that the reading takes, are together of bulk at most 1048576: NARROWER than '..Said'. Prove '..Said' where nothing that the law and all that it calls make is longer than what came in: it says more and counts as full. Else prove '..UptoSaid'. A law counts once. -/
mutual
def uptoBulk {H : Type} : DataW H → Nat
  | .lit (.string bytes) => bytes.length + 1
  | .lit _ => 1
  | .nil => 1
  | .ptr d => uptoBulk d + 1
  | .slice elems spare => uptoBulkAll elems + uptoBulkAll spare + 1
  | .agg parts => uptoBulkAll parts + 1
  | .iface _ d => uptoBulk d + 1
  | .map entries => uptoBulkEntries entries + 1
  | .held _ => 1
def uptoBulkAll {H : Type} : List (DataW H) → Nat
  | [] => 0
  | d :: r => uptoBulk d + uptoBulkAll r
def uptoBulkEntries {H : Type} : List (Lit × DataW H) → Nat
  | [] => 0
  | x :: r => uptoBulkEntry x + uptoBulkEntries r
def uptoBulkEntry {H : Type} : Lit × DataW H → Nat
  | (.string bytes, d) => bytes.length + uptoBulk d + 1
  | (_, d) => uptoBulk d + 1
 end
def uptoSmall : (H : Type) → List (DataW H) → Bool := fun _ ds => decide (uptoBulkAll ds ≤ 1048576)
def OpenSpec.upto (s : _root_.Go.ChangeSpec) : _root_.Go.OpenSpec := { _root_.Go.OpenSpec.ofChange s with cond := some uptoSmall }

/-- 'tinkerlaw08.SuiteMeets', WHERE WHAT IT READS IS OF BULK AT MOST 1048576: true; the input reads as it did. -/
def suiteMeetsUptoRow : OpenClaim := { program := "ytmigkbimdjiigaa", sum := "0fa96eb5a9008c7e88d655a17ac78c46b2a23413a6839f6c97eca84fc7bc45f4", func := "tinker/tinkerlaw08.SuiteMeets", spec := "suiteMeets", unfollowed := true, recurses := true, apart := false, narrowed := true }
def SuiteMeetsUptoSaid : Prop := suiteMeetsUptoRow.holds Try.pinned (OpenSpec.upto suiteMeetsSpec)

/-- 'tinkerlaw08.SuiteChecks', WHERE WHAT IT READS IS OF BULK AT MOST 1048576: true; the input reads as it did. -/
def suiteChecksUptoRow : OpenClaim := { program := "ytmigkbimdjiigaa", sum := "0fa96eb5a9008c7e88d655a17ac78c46b2a23413a6839f6c97eca84fc7bc45f4", func := "tinker/tinkerlaw08.SuiteChecks", spec := "suiteChecks", unfollowed := true, recurses := true, apart := false, narrowed := true }
def SuiteChecksUptoSaid : Prop := suiteChecksUptoRow.holds Try.pinned (OpenSpec.upto suiteChecksSpec)

/-- 'tinkerlaw08.SuiteCovers', WHERE WHAT IT READS IS OF BULK AT MOST 1048576: true; the input reads as it did. -/
def suiteCoversUptoRow : OpenClaim := { program := "ytmigkbimdjiigaa", sum := "0fa96eb5a9008c7e88d655a17ac78c46b2a23413a6839f6c97eca84fc7bc45f4", func := "tinker/tinkerlaw08.SuiteCovers", spec := "suiteCovers", unfollowed := true, recurses := true, apart := false, narrowed := true }
def SuiteCoversUptoSaid : Prop := suiteCoversUptoRow.holds Try.pinned (OpenSpec.upto suiteCoversSpec)

/-- 'tinkerlaw08.SuiteCheapests', WHERE WHAT IT READS IS OF BULK AT MOST 1048576: true; the input reads as it did. -/
def suiteCheapestsUptoRow : OpenClaim := { program := "ytmigkbimdjiigaa", sum := "0fa96eb5a9008c7e88d655a17ac78c46b2a23413a6839f6c97eca84fc7bc45f4", func := "tinker/tinkerlaw08.SuiteCheapests", spec := "suiteCheapests", unfollowed := true, recurses := true, apart := false, narrowed := true }
def SuiteCheapestsUptoSaid : Prop := suiteCheapestsUptoRow.holds Try.pinned (OpenSpec.upto suiteCheapestsSpec)

/-- 'tinkerlaw08.SuiteExcludes', WHERE WHAT IT READS IS OF BULK AT MOST 1048576: true; the input reads as it did. -/
def suiteExcludesUptoRow : OpenClaim := { program := "ytmigkbimdjiigaa", sum := "0fa96eb5a9008c7e88d655a17ac78c46b2a23413a6839f6c97eca84fc7bc45f4", func := "tinker/tinkerlaw08.SuiteExcludes", spec := "suiteExcludes", unfollowed := true, recurses := true, apart := false, narrowed := true }
def SuiteExcludesUptoSaid : Prop := suiteExcludesUptoRow.holds Try.pinned (OpenSpec.upto suiteExcludesSpec)

/-- 'tinkerlaw08.SuiteEssentials', WHERE WHAT IT READS IS OF BULK AT MOST 1048576: true; the input reads as it did. -/
def suiteEssentialsUptoRow : OpenClaim := { program := "ytmigkbimdjiigaa", sum := "0fa96eb5a9008c7e88d655a17ac78c46b2a23413a6839f6c97eca84fc7bc45f4", func := "tinker/tinkerlaw08.SuiteEssentials", spec := "suiteEssentials", unfollowed := true, recurses := true, apart := false, narrowed := true }
def SuiteEssentialsUptoSaid : Prop := suiteEssentialsUptoRow.holds Try.pinned (OpenSpec.upto suiteEssentialsSpec)

/-- 'tinkerlaw08.SuiteThins', WHERE WHAT IT READS IS OF BULK AT MOST 1048576: true; the input reads as it did. -/
def suiteThinsUptoRow : OpenClaim := { program := "ytmigkbimdjiigaa", sum := "0fa96eb5a9008c7e88d655a17ac78c46b2a23413a6839f6c97eca84fc7bc45f4", func := "tinker/tinkerlaw08.SuiteThins", spec := "suiteThins", unfollowed := true, recurses := true, apart := false, narrowed := true }
def SuiteThinsUptoSaid : Prop := suiteThinsUptoRow.holds Try.pinned (OpenSpec.upto suiteThinsSpec)

/-- 'tinkerlaw08.SuiteLeasts', WHERE WHAT IT READS IS OF BULK AT MOST 1048576: true; the input reads as it did. -/
def suiteLeastsUptoRow : OpenClaim := { program := "ytmigkbimdjiigaa", sum := "0fa96eb5a9008c7e88d655a17ac78c46b2a23413a6839f6c97eca84fc7bc45f4", func := "tinker/tinkerlaw08.SuiteLeasts", spec := "suiteLeasts", unfollowed := true, recurses := true, apart := false, narrowed := true }
def SuiteLeastsUptoSaid : Prop := suiteLeastsUptoRow.holds Try.pinned (OpenSpec.upto suiteLeastsSpec)

/-- 'tinkerlaw08.SuiteWaits', WHERE WHAT IT READS IS OF BULK AT MOST 1048576: true; the input reads as it did. -/
def suiteWaitsUptoRow : OpenClaim := { program := "ytmigkbimdjiigaa", sum := "0fa96eb5a9008c7e88d655a17ac78c46b2a23413a6839f6c97eca84fc7bc45f4", func := "tinker/tinkerlaw08.SuiteWaits", spec := "suiteWaits", unfollowed := true, recurses := true, apart := false, narrowed := true }
def SuiteWaitsUptoSaid : Prop := suiteWaitsUptoRow.holds Try.pinned (OpenSpec.upto suiteWaitsSpec)

/-- 'tinkerlaw08.SuiteGreedies', WHERE WHAT IT READS IS OF BULK AT MOST 1048576: true; the input reads as it did. -/
def suiteGreediesUptoRow : OpenClaim := { program := "ytmigkbimdjiigaa", sum := "0fa96eb5a9008c7e88d655a17ac78c46b2a23413a6839f6c97eca84fc7bc45f4", func := "tinker/tinkerlaw08.SuiteGreedies", spec := "suiteGreedies", unfollowed := true, recurses := true, apart := false, narrowed := true }
def SuiteGreediesUptoSaid : Prop := suiteGreediesUptoRow.holds Try.pinned (OpenSpec.upto suiteGreediesSpec)

/-- 'tinkerlaw08.SuiteBests', WHERE WHAT IT READS IS OF BULK AT MOST 1048576: true; the input reads as it did. -/
def suiteBestsUptoRow : OpenClaim := { program := "ytmigkbimdjiigaa", sum := "0fa96eb5a9008c7e88d655a17ac78c46b2a23413a6839f6c97eca84fc7bc45f4", func := "tinker/tinkerlaw08.SuiteBests", spec := "suiteBests", unfollowed := true, recurses := true, apart := false, narrowed := true }
def SuiteBestsUptoSaid : Prop := suiteBestsUptoRow.holds Try.pinned (OpenSpec.upto suiteBestsSpec)

/-- 'tinkerlaw08.SuiteWithouts', WHERE WHAT IT READS IS OF BULK AT MOST 1048576: true; the input reads as it did. -/
def suiteWithoutsUptoRow : OpenClaim := { program := "ytmigkbimdjiigaa", sum := "0fa96eb5a9008c7e88d655a17ac78c46b2a23413a6839f6c97eca84fc7bc45f4", func := "tinker/tinkerlaw08.SuiteWithouts", spec := "suiteWithouts", unfollowed := true, recurses := true, apart := false, narrowed := true }
def SuiteWithoutsUptoSaid : Prop := suiteWithoutsUptoRow.holds Try.pinned (OpenSpec.upto suiteWithoutsSpec)

/-- 'tinkerlaw08.SuiteDrops', WHERE WHAT IT READS IS OF BULK AT MOST 1048576: true; the input reads as it did. -/
def suiteDropsUptoRow : OpenClaim := { program := "ytmigkbimdjiigaa", sum := "0fa96eb5a9008c7e88d655a17ac78c46b2a23413a6839f6c97eca84fc7bc45f4", func := "tinker/tinkerlaw08.SuiteDrops", spec := "suiteDrops", unfollowed := true, recurses := true, apart := false, narrowed := true }
def SuiteDropsUptoSaid : Prop := suiteDropsUptoRow.holds Try.pinned (OpenSpec.upto suiteDropsSpec)

/-- 'tinkerlaw08.SuiteTwists', WHERE WHAT IT READS IS OF BULK AT MOST 1048576: true; the input reads as it did. -/
def suiteTwistsUptoRow : OpenClaim := { program := "ytmigkbimdjiigaa", sum := "0fa96eb5a9008c7e88d655a17ac78c46b2a23413a6839f6c97eca84fc7bc45f4", func := "tinker/tinkerlaw08.SuiteTwists", spec := "suiteTwists", unfollowed := true, recurses := true, apart := false, narrowed := true }
def SuiteTwistsUptoSaid : Prop := suiteTwistsUptoRow.holds Try.pinned (OpenSpec.upto suiteTwistsSpec)

end Rows
end Go.Proofs.Ytmigkbimdjiigaa
