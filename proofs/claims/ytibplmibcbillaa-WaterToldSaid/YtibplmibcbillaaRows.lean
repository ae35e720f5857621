/-
  No cell of these rows narrows 'for every input' (looked for: loops, veiled, ifaces, maps, wideKeys, modest, calm, conditions, laid).
  DERIVED. THE GIVEN ROWS OF THIS SEAT. 13 by the template 'for every input the law returns true; each argument reads behind the call as it read before'; 0 by the template 'total and deterministic' (their statements: YtibplmibcbillaaTotals.lean).
  GIVEN WITH THE SEED: the statements are not yours to turn. If you find one false, say at which input.
  Laid BY PROGRAM, IN A SANDBOX (cutbox-rows.mjs): the forced cells as the released guide's own fill.sh prints them over the translation 60df752c45f42a73… (all of the seat's roots in one cut). By AI agents, Wed Nov 11 2026. No macro, syntax, notation, axiom, sorry.
-/
import Derived.Test.YtibplmibcbillaaChecked
import GoSem.Claim
import GoSem.ClaimJoined
import GoSem.ClaimMapViews
import Derived.JoinedTies
import Derived.KernelRfl
namespace Go.Proofs.Ytibplmibcbillaa
/- THE CELL 'sum', in the pinned program and in every row, IS THE sha256 OF THE DUMP (.gsa) THAT YtibplmibcbillaaProg.lean LOADS. Nothing in Lean hashes anything: it is a label: what it is worth is what the hold of that sum in a sandbox is worth. -/
noncomputable def Try.pinned : Pinned := { name := "ytibplmibcbillaa", sum := "60df752c45f42a733138d62dd7829f5077d24ba6ff27cb29d9e0380f43be85e5", checked := Try.checked }
namespace Rows
def none {H : Type} : Left H := { results := [], args := [] }

/-- 'sackunglaw02.WaterRuns': WHATEVER THE INPUT: true; the input reads as it did. -/
def waterRunsSpec : ChangeSpec := { name := "waterRuns", fn := fun _ => fun
  | [d1, d2, d3] => { results := [.lit (.bool true)], args := [d1, d2, d3] }
  | _ => none }
def waterRunsRow : OpenClaim := { program := "ytibplmibcbillaa", sum := "60df752c45f42a733138d62dd7829f5077d24ba6ff27cb29d9e0380f43be85e5", func := "sackung/sackunglaw02.WaterRuns", spec := "waterRuns", unfollowed := true, recurses := true, plainKeys := false, apart := false }
def WaterRunsSaid : Prop := waterRunsRow.holds Try.pinned (OpenSpec.ofChange waterRunsSpec)

/-- ITS FALSE NEIGHBOUR: 'it returns false'. Refute it at one input. -/
def waterRunsWrong : ChangeSpec := { name := "waterRuns", fn := fun _ => fun
  | [d1, d2, d3] => { results := [.lit (.bool false)], args := [d1, d2, d3] }
  | _ => none }
def WaterRunsWrongFalsely : Prop := waterRunsRow.holds Try.pinned (OpenSpec.ofChange waterRunsWrong)

/-- 'sackunglaw02.WaterLevels': WHATEVER THE INPUT: true; the input reads as it did. -/
def waterLevelsSpec : ChangeSpec := { name := "waterLevels", fn := fun _ => fun
  | [d1, d2] => { results := [.lit (.bool true)], args := [d1, d2] }
  | _ => none }
def waterLevelsRow : OpenClaim := { program := "ytibplmibcbillaa", sum := "60df752c45f42a733138d62dd7829f5077d24ba6ff27cb29d9e0380f43be85e5", func := "sackung/sackunglaw02.WaterLevels", spec := "waterLevels", unfollowed := true, recurses := true, plainKeys := false, apart := false }
def WaterLevelsSaid : Prop := waterLevelsRow.holds Try.pinned (OpenSpec.ofChange waterLevelsSpec)

/-- ITS FALSE NEIGHBOUR: 'it returns false'. Refute it at one input. -/
def waterLevelsWrong : ChangeSpec := { name := "waterLevels", fn := fun _ => fun
  | [d1, d2] => { results := [.lit (.bool false)], args := [d1, d2] }
  | _ => none }
def WaterLevelsWrongFalsely : Prop := waterLevelsRow.holds Try.pinned (OpenSpec.ofChange waterLevelsWrong)

/-- 'sackunglaw02.WaterReaches': WHATEVER THE INPUT: true; the input reads as it did. -/
def waterReachesSpec : ChangeSpec := { name := "waterReaches", fn := fun _ => fun
  | [d1, d2, d3, d4] => { results := [.lit (.bool true)], args := [d1, d2, d3, d4] }
  | _ => none }
def waterReachesRow : OpenClaim := { program := "ytibplmibcbillaa", sum := "60df752c45f42a733138d62dd7829f5077d24ba6ff27cb29d9e0380f43be85e5", func := "sackung/sackunglaw02.WaterReaches", spec := "waterReaches", unfollowed := true, recurses := true, plainKeys := false, apart := false }
def WaterReachesSaid : Prop := waterReachesRow.holds Try.pinned (OpenSpec.ofChange waterReachesSpec)

/-- ITS FALSE NEIGHBOUR: 'it returns false'. Refute it at one input. -/
def waterReachesWrong : ChangeSpec := { name := "waterReaches", fn := fun _ => fun
  | [d1, d2, d3, d4] => { results := [.lit (.bool false)], args := [d1, d2, d3, d4] }
  | _ => none }
def WaterReachesWrongFalsely : Prop := waterReachesRow.holds Try.pinned (OpenSpec.ofChange waterReachesWrong)

/-- 'sackunglaw02.WaterLearns': WHATEVER THE INPUT: true; the input reads as it did. -/
def waterLearnsSpec : ChangeSpec := { name := "waterLearns", fn := fun _ => fun
  | [d1, d2, d3, d4] => { results := [.lit (.bool true)], args := [d1, d2, d3, d4] }
  | _ => none }
def waterLearnsRow : OpenClaim := { program := "ytibplmibcbillaa", sum := "60df752c45f42a733138d62dd7829f5077d24ba6ff27cb29d9e0380f43be85e5", func := "sackung/sackunglaw02.WaterLearns", spec := "waterLearns", unfollowed := true, recurses := true, plainKeys := false, apart := false }
def WaterLearnsSaid : Prop := waterLearnsRow.holds Try.pinned (OpenSpec.ofChange waterLearnsSpec)

/-- ITS FALSE NEIGHBOUR: 'it returns false'. Refute it at one input. -/
def waterLearnsWrong : ChangeSpec := { name := "waterLearns", fn := fun _ => fun
  | [d1, d2, d3, d4] => { results := [.lit (.bool false)], args := [d1, d2, d3, d4] }
  | _ => none }
def WaterLearnsWrongFalsely : Prop := waterLearnsRow.holds Try.pinned (OpenSpec.ofChange waterLearnsWrong)

/-- 'sackunglaw02.WaterLeasts': WHATEVER THE INPUT: true; the input reads as it did. -/
def waterLeastsSpec : ChangeSpec := { name := "waterLeasts", fn := fun _ => fun
  | [d1, d2, d3, d4] => { results := [.lit (.bool true)], args := [d1, d2, d3, d4] }
  | _ => none }
def waterLeastsRow : OpenClaim := { program := "ytibplmibcbillaa", sum := "60df752c45f42a733138d62dd7829f5077d24ba6ff27cb29d9e0380f43be85e5", func := "sackung/sackunglaw02.WaterLeasts", spec := "waterLeasts", unfollowed := true, recurses := true, plainKeys := false, apart := false }
def WaterLeastsSaid : Prop := waterLeastsRow.holds Try.pinned (OpenSpec.ofChange waterLeastsSpec)

/-- ITS FALSE NEIGHBOUR: 'it returns false'. Refute it at one input. -/
def waterLeastsWrong : ChangeSpec := { name := "waterLeasts", fn := fun _ => fun
  | [d1, d2, d3, d4] => { results := [.lit (.bool false)], args := [d1, d2, d3, d4] }
  | _ => none }
def WaterLeastsWrongFalsely : Prop := waterLeastsRow.holds Try.pinned (OpenSpec.ofChange waterLeastsWrong)

/-- 'sackunglaw02.WaterNames': WHATEVER THE INPUT: true; the input reads as it did. -/
def waterNamesSpec : ChangeSpec := { name := "waterNames", fn := fun _ => fun
  | [] => { results := [.lit (.bool true)], args := [] }
  | _ => none }
def waterNamesRow : OpenClaim := { program := "ytibplmibcbillaa", sum := "60df752c45f42a733138d62dd7829f5077d24ba6ff27cb29d9e0380f43be85e5", func := "sackung/sackunglaw02.WaterNames", spec := "waterNames", unfollowed := true, recurses := true, plainKeys := false, apart := false }
def WaterNamesSaid : Prop := waterNamesRow.holds Try.pinned (OpenSpec.ofChange waterNamesSpec)

/-- ITS FALSE NEIGHBOUR: 'it returns false'. Refute it at one input. -/
def waterNamesWrong : ChangeSpec := { name := "waterNames", fn := fun _ => fun
  | [] => { results := [.lit (.bool false)], args := [] }
  | _ => none }
def WaterNamesWrongFalsely : Prop := waterNamesRow.holds Try.pinned (OpenSpec.ofChange waterNamesWrong)

/-- 'sackunglaw02.WaterTruth': WHATEVER THE INPUT: true; the input reads as it did. -/
def waterTruthSpec : ChangeSpec := { name := "waterTruth", fn := fun _ => fun
  | [d1, d2, d3] => { results := [.lit (.bool true)], args := [d1, d2, d3] }
  | _ => none }
def waterTruthRow : OpenClaim := { program := "ytibplmibcbillaa", sum := "60df752c45f42a733138d62dd7829f5077d24ba6ff27cb29d9e0380f43be85e5", func := "sackung/sackunglaw02.WaterTruth", spec := "waterTruth", unfollowed := true, recurses := true, plainKeys := false, apart := false }
def WaterTruthSaid : Prop := waterTruthRow.holds Try.pinned (OpenSpec.ofChange waterTruthSpec)

/-- ITS FALSE NEIGHBOUR: 'it returns false'. Refute it at one input. -/
def waterTruthWrong : ChangeSpec := { name := "waterTruth", fn := fun _ => fun
  | [d1, d2, d3] => { results := [.lit (.bool false)], args := [d1, d2, d3] }
  | _ => none }
def WaterTruthWrongFalsely : Prop := waterTruthRow.holds Try.pinned (OpenSpec.ofChange waterTruthWrong)

/-- 'sackunglaw02.WaterKept': WHATEVER THE INPUT: true; the input reads as it did. -/
def waterKeptSpec : ChangeSpec := { name := "waterKept", fn := fun _ => fun
  | [d1, d2, d3] => { results := [.lit (.bool true)], args := [d1, d2, d3] }
  | _ => none }
def waterKeptRow : OpenClaim := { program := "ytibplmibcbillaa", sum := "60df752c45f42a733138d62dd7829f5077d24ba6ff27cb29d9e0380f43be85e5", func := "sackung/sackunglaw02.WaterKept", spec := "waterKept", unfollowed := true, recurses := true, plainKeys := false, apart := false }
def WaterKeptSaid : Prop := waterKeptRow.holds Try.pinned (OpenSpec.ofChange waterKeptSpec)

/-- ITS FALSE NEIGHBOUR: 'it returns false'. Refute it at one input. -/
def waterKeptWrong : ChangeSpec := { name := "waterKept", fn := fun _ => fun
  | [d1, d2, d3] => { results := [.lit (.bool false)], args := [d1, d2, d3] }
  | _ => none }
def WaterKeptWrongFalsely : Prop := waterKeptRow.holds Try.pinned (OpenSpec.ofChange waterKeptWrong)

/-- 'sackunglaw02.WaterMore': WHATEVER THE INPUT: true; the input reads as it did. -/
def waterMoreSpec : ChangeSpec := { name := "waterMore", fn := fun _ => fun
  | [d1, d2, d3, d4, d5, d6] => { results := [.lit (.bool true)], args := [d1, d2, d3, d4, d5, d6] }
  | _ => none }
def waterMoreRow : OpenClaim := { program := "ytibplmibcbillaa", sum := "60df752c45f42a733138d62dd7829f5077d24ba6ff27cb29d9e0380f43be85e5", func := "sackung/sackunglaw02.WaterMore", spec := "waterMore", unfollowed := true, recurses := true, plainKeys := false, apart := false }
def WaterMoreSaid : Prop := waterMoreRow.holds Try.pinned (OpenSpec.ofChange waterMoreSpec)

/-- ITS FALSE NEIGHBOUR: 'it returns false'. Refute it at one input. -/
def waterMoreWrong : ChangeSpec := { name := "waterMore", fn := fun _ => fun
  | [d1, d2, d3, d4, d5, d6] => { results := [.lit (.bool false)], args := [d1, d2, d3, d4, d5, d6] }
  | _ => none }
def WaterMoreWrongFalsely : Prop := waterMoreRow.holds Try.pinned (OpenSpec.ofChange waterMoreWrong)

/-- 'sackunglaw02.WaterReached': WHATEVER THE INPUT: true; the input reads as it did. -/
def waterReachedSpec : ChangeSpec := { name := "waterReached", fn := fun _ => fun
  | [d1, d2, d3, d4, d5, d6] => { results := [.lit (.bool true)], args := [d1, d2, d3, d4, d5, d6] }
  | _ => none }
def waterReachedRow : OpenClaim := { program := "ytibplmibcbillaa", sum := "60df752c45f42a733138d62dd7829f5077d24ba6ff27cb29d9e0380f43be85e5", func := "sackung/sackunglaw02.WaterReached", spec := "waterReached", unfollowed := true, recurses := true, plainKeys := false, apart := false }
def WaterReachedSaid : Prop := waterReachedRow.holds Try.pinned (OpenSpec.ofChange waterReachedSpec)

/-- ITS FALSE NEIGHBOUR: 'it returns false'. Refute it at one input. -/
def waterReachedWrong : ChangeSpec := { name := "waterReached", fn := fun _ => fun
  | [d1, d2, d3, d4, d5, d6] => { results := [.lit (.bool false)], args := [d1, d2, d3, d4, d5, d6] }
  | _ => none }
def WaterReachedWrongFalsely : Prop := waterReachedRow.holds Try.pinned (OpenSpec.ofChange waterReachedWrong)

/-- 'sackunglaw02.WaterTold': WHATEVER THE INPUT: true; the input reads as it did. -/
def waterToldSpec : ChangeSpec := { name := "waterTold", fn := fun _ => fun
  | [d1, d2, d3, d4, d5] => { results := [.lit (.bool true)], args := [d1, d2, d3, d4, d5] }
  | _ => none }
def waterToldRow : OpenClaim := { program := "ytibplmibcbillaa", sum := "60df752c45f42a733138d62dd7829f5077d24ba6ff27cb29d9e0380f43be85e5", func := "sackung/sackunglaw02.WaterTold", spec := "waterTold", unfollowed := true, recurses := true, plainKeys := false, apart := false }
def WaterToldSaid : Prop := waterToldRow.holds Try.pinned (OpenSpec.ofChange waterToldSpec)

/-- ITS FALSE NEIGHBOUR: 'it returns false'. Refute it at one input. -/
def waterToldWrong : ChangeSpec := { name := "waterTold", fn := fun _ => fun
  | [d1, d2, d3, d4, d5] => { results := [.lit (.bool false)], args := [d1, d2, d3, d4, d5] }
  | _ => none }
def WaterToldWrongFalsely : Prop := waterToldRow.holds Try.pinned (OpenSpec.ofChange waterToldWrong)

/-- 'sackunglaw02.WaterPumps': WHATEVER THE INPUT: true; the input reads as it did. -/
def waterPumpsSpec : ChangeSpec := { name := "waterPumps", fn := fun _ => fun
  | [d1, d2, d3, d4, d5, d6] => { results := [.lit (.bool true)], args := [d1, d2, d3, d4, d5, d6] }
  | _ => none }
def waterPumpsRow : OpenClaim := { program := "ytibplmibcbillaa", sum := "60df752c45f42a733138d62dd7829f5077d24ba6ff27cb29d9e0380f43be85e5", func := "sackung/sackunglaw02.WaterPumps", spec := "waterPumps", unfollowed := true, recurses := true, plainKeys := false, apart := false }
def WaterPumpsSaid : Prop := waterPumpsRow.holds Try.pinned (OpenSpec.ofChange waterPumpsSpec)

/-- ITS FALSE NEIGHBOUR: 'it returns false'. Refute it at one input. -/
def waterPumpsWrong : ChangeSpec := { name := "waterPumps", fn := fun _ => fun
  | [d1, d2, d3, d4, d5, d6] => { results := [.lit (.bool false)], args := [d1, d2, d3, d4, d5, d6] }
  | _ => none }
def WaterPumpsWrongFalsely : Prop := waterPumpsRow.holds Try.pinned (OpenSpec.ofChange waterPumpsWrong)

/-- 'sackunglaw02.WaterBehind': WHATEVER THE INPUT: true; the input reads as it did. -/
def waterBehindSpec : ChangeSpec := { name := "waterBehind", fn := fun _ => fun
  | [d1, d2, d3] => { results := [.lit (.bool true)], args := [d1, d2, d3] }
  | _ => none }
def waterBehindRow : OpenClaim := { program := "ytibplmibcbillaa", sum := "60df752c45f42a733138d62dd7829f5077d24ba6ff27cb29d9e0380f43be85e5", func := "sackung/sackunglaw02.WaterBehind", spec := "waterBehind", unfollowed := true, recurses := true, plainKeys := false, apart := false }
def WaterBehindSaid : Prop := waterBehindRow.holds Try.pinned (OpenSpec.ofChange waterBehindSpec)

/-- ITS FALSE NEIGHBOUR: 'it returns false'. Refute it at one input. -/
def waterBehindWrong : ChangeSpec := { name := "waterBehind", fn := fun _ => fun
  | [d1, d2, d3] => { results := [.lit (.bool false)], args := [d1, d2, d3] }
  | _ => none }
def WaterBehindWrongFalsely : Prop := waterBehindRow.holds Try.pinned (OpenSpec.ofChange waterBehindWrong)

/- THE SECOND FORM. 'bulk': how many values and letters a reading holds, each counted each time it is reached (what is shared counts as often as it is met; a slice's spare places count too). A statement '..UptoSaid' is the law's where the arguments, and the package variables that the reading takes, are together of bulk at most 1048576: NARROWER than '..Said'. Prove '..Said' where nothing that the law and all that it calls make is longer than what came in: it says more and counts as full. Else prove '..UptoSaid'. A law counts once. -/
mutual
def uptoBulk {H : Type} : DataW H → Nat
  | .lit (.string bytes) => bytes.length + 1
  | .lit _ => 1
  | .nil => 1
  | .ptr d => uptoBulk d + 1
  | .slice elems spare => uptoBulkAll elems + uptoBulkAll spare + 1
  | .agg parts => uptoBulkAll parts + 1
  | .iface _ d => uptoBulk d + 1
  | .map entries => uptoBulkEntries entries + 1
  | .held _ => 1
def uptoBulkAll {H : Type} : List (DataW H) → Nat
  | [] => 0
  | d :: r => uptoBulk d + uptoBulkAll r
def uptoBulkEntries {H : Type} : List (Lit × DataW H) → Nat
  | [] => 0
  | x :: r => uptoBulkEntry x + uptoBulkEntries r
def uptoBulkEntry {H : Type} : Lit × DataW H → Nat
  | (.string bytes, d) => bytes.length + uptoBulk d + 1
  | (_, d) => uptoBulk d + 1
 end
def uptoSmall : (H : Type) → List (DataW H) → Bool := fun _ ds => decide (uptoBulkAll ds ≤ 1048576)
def OpenSpec.upto (s : _root_.Go.ChangeSpec) : _root_.Go.OpenSpec := { _root_.Go.OpenSpec.ofChange s with cond := some uptoSmall }

/-- 'sackunglaw02.WaterRuns', WHERE WHAT IT READS IS OF BULK AT MOST 1048576: true; the input reads as it did. -/
def waterRunsUptoRow : OpenClaim := { program := "ytibplmibcbillaa", sum := "60df752c45f42a733138d62dd7829f5077d24ba6ff27cb29d9e0380f43be85e5", func := "sackung/sackunglaw02.WaterRuns", spec := "waterRuns", unfollowed := true, recurses := true, plainKeys := false, apart := false, narrowed := true }
def WaterRunsUptoSaid : Prop := waterRunsUptoRow.holds Try.pinned (OpenSpec.upto waterRunsSpec)

/-- 'sackunglaw02.WaterLevels', WHERE WHAT IT READS IS OF BULK AT MOST 1048576: true; the input reads as it did. -/
def waterLevelsUptoRow : OpenClaim := { program := "ytibplmibcbillaa", sum := "60df752c45f42a733138d62dd7829f5077d24ba6ff27cb29d9e0380f43be85e5", func := "sackung/sackunglaw02.WaterLevels", spec := "waterLevels", unfollowed := true, recurses := true, plainKeys := false, apart := false, narrowed := true }
def WaterLevelsUptoSaid : Prop := waterLevelsUptoRow.holds Try.pinned (OpenSpec.upto waterLevelsSpec)

/-- 'sackunglaw02.WaterReaches', WHERE WHAT IT READS IS OF BULK AT MOST 1048576: true; the input reads as it did. -/
def waterReachesUptoRow : OpenClaim := { program := "ytibplmibcbillaa", sum := "60df752c45f42a733138d62dd7829f5077d24ba6ff27cb29d9e0380f43be85e5", func := "sackung/sackunglaw02.WaterReaches", spec := "waterReaches", unfollowed := true, recurses := true, plainKeys := false, apart := false, narrowed := true }
def WaterReachesUptoSaid : Prop := waterReachesUptoRow.holds Try.pinned (OpenSpec.upto waterReachesSpec)

/-- 'sackunglaw02.WaterLearns', WHERE WHAT IT READS IS OF BULK AT MOST 1048576: true; the input reads as it did. -/
def waterLearnsUptoRow : OpenClaim := { program := "ytibplmibcbillaa", sum := "60df752c45f42a733138d62dd7829f5077d24ba6ff27cb29d9e0380f43be85e5", func := "sackung/sackunglaw02.WaterLearns", spec := "waterLearns", unfollowed := true, recurses := true, plainKeys := false, apart := false, narrowed := true }
def WaterLearnsUptoSaid : Prop := waterLearnsUptoRow.holds Try.pinned (OpenSpec.upto waterLearnsSpec)

/-- 'sackunglaw02.WaterLeasts', WHERE WHAT IT READS IS OF BULK AT MOST 1048576: true; the input reads as it did. -/
def waterLeastsUptoRow : OpenClaim := { program := "ytibplmibcbillaa", sum := "60df752c45f42a733138d62dd7829f5077d24ba6ff27cb29d9e0380f43be85e5", func := "sackung/sackunglaw02.WaterLeasts", spec := "waterLeasts", unfollowed := true, recurses := true, plainKeys := false, apart := false, narrowed := true }
def WaterLeastsUptoSaid : Prop := waterLeastsUptoRow.holds Try.pinned (OpenSpec.upto waterLeastsSpec)

/-- 'sackunglaw02.WaterNames', WHERE WHAT IT READS IS OF BULK AT MOST 1048576: true; the input reads as it did. -/
def waterNamesUptoRow : OpenClaim := { program := "ytibplmibcbillaa", sum := "60df752c45f42a733138d62dd7829f5077d24ba6ff27cb29d9e0380f43be85e5", func := "sackung/sackunglaw02.WaterNames", spec := "waterNames", unfollowed := true, recurses := true, plainKeys := false, apart := false, narrowed := true }
def WaterNamesUptoSaid : Prop := waterNamesUptoRow.holds Try.pinned (OpenSpec.upto waterNamesSpec)

/-- 'sackunglaw02.WaterTruth', WHERE WHAT IT READS IS OF BULK AT MOST 1048576: true; the input reads as it did. -/
def waterTruthUptoRow : OpenClaim := { program := "ytibplmibcbillaa", sum := "60df752c45f42a733138d62dd7829f5077d24ba6ff27cb29d9e0380f43be85e5", func := "sackung/sackunglaw02.WaterTruth", spec := "waterTruth", unfollowed := true, recurses := true, plainKeys := false, apart := false, narrowed := true }
def WaterTruthUptoSaid : Prop := waterTruthUptoRow.holds Try.pinned (OpenSpec.upto waterTruthSpec)

/-- 'sackunglaw02.WaterKept', WHERE WHAT IT READS IS OF BULK AT MOST 1048576: true; the input reads as it did. -/
def waterKeptUptoRow : OpenClaim := { program := "ytibplmibcbillaa", sum := "60df752c45f42a733138d62dd7829f5077d24ba6ff27cb29d9e0380f43be85e5", func := "sackung/sackunglaw02.WaterKept", spec := "waterKept", unfollowed := true, recurses := true, plainKeys := false, apart := false, narrowed := true }
def WaterKeptUptoSaid : Prop := waterKeptUptoRow.holds Try.pinned (OpenSpec.upto waterKeptSpec)

/-- 'sackunglaw02.WaterMore', WHERE WHAT IT READS IS OF BULK AT MOST 1048576: true; the input reads as it did. -/
def waterMoreUptoRow : OpenClaim := { program := "ytibplmibcbillaa", sum := "60df752c45f42a733138d62dd7829f5077d24ba6ff27cb29d9e0380f43be85e5", func := "sackung/sackunglaw02.WaterMore", spec := "waterMore", unfollowed := true, recurses := true, plainKeys := false, apart := false, narrowed := true }
def WaterMoreUptoSaid : Prop := waterMoreUptoRow.holds Try.pinned (OpenSpec.upto waterMoreSpec)

/-- 'sackunglaw02.WaterReached', WHERE WHAT IT READS IS OF BULK AT MOST 1048576: true; the input reads as it did. -/
def waterReachedUptoRow : OpenClaim := { program := "ytibplmibcbillaa", sum := "60df752c45f42a733138d62dd7829f5077d24ba6ff27cb29d9e0380f43be85e5", func := "sackung/sackunglaw02.WaterReached", spec := "waterReached", unfollowed := true, recurses := true, plainKeys := false, apart := false, narrowed := true }
def WaterReachedUptoSaid : Prop := waterReachedUptoRow.holds Try.pinned (OpenSpec.upto waterReachedSpec)

/-- 'sackunglaw02.WaterTold', WHERE WHAT IT READS IS OF BULK AT MOST 1048576: true; the input reads as it did. -/
def waterToldUptoRow : OpenClaim := { program := "ytibplmibcbillaa", sum := "60df752c45f42a733138d62dd7829f5077d24ba6ff27cb29d9e0380f43be85e5", func := "sackung/sackunglaw02.WaterTold", spec := "waterTold", unfollowed := true, recurses := true, plainKeys := false, apart := false, narrowed := true }
def WaterToldUptoSaid : Prop := waterToldUptoRow.holds Try.pinned (OpenSpec.upto waterToldSpec)

/-- 'sackunglaw02.WaterPumps', WHERE WHAT IT READS IS OF BULK AT MOST 1048576: true; the input reads as it did. -/
def waterPumpsUptoRow : OpenClaim := { program := "ytibplmibcbillaa", sum := "60df752c45f42a733138d62dd7829f5077d24ba6ff27cb29d9e0380f43be85e5", func := "sackung/sackunglaw02.WaterPumps", spec := "waterPumps", unfollowed := true, recurses := true, plainKeys := false, apart := false, narrowed := true }
def WaterPumpsUptoSaid : Prop := waterPumpsUptoRow.holds Try.pinned (OpenSpec.upto waterPumpsSpec)

/-- 'sackunglaw02.WaterBehind', WHERE WHAT IT READS IS OF BULK AT MOST 1048576: true; the input reads as it did. -/
def waterBehindUptoRow : OpenClaim := { program := "ytibplmibcbillaa", sum := "60df752c45f42a733138d62dd7829f5077d24ba6ff27cb29d9e0380f43be85e5", func := "sackung/sackunglaw02.WaterBehind", spec := "waterBehind", unfollowed := true, recurses := true, plainKeys := false, apart := false, narrowed := true }
def WaterBehindUptoSaid : Prop := waterBehindUptoRow.holds Try.pinned (OpenSpec.upto waterBehindSpec)

end Rows
end Go.Proofs.Ytibplmibcbillaa
