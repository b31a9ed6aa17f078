/-
  No cell of these rows narrows 'for every input' (looked for: loops, veiled, ifaces, maps, wideKeys, modest, calm, conditions, laid).
  DERIVED. THE GIVEN ROWS OF THIS SEAT. 11 by the template 'for every input the law returns true; each argument reads behind the call as it read before'; 0 by the template 'total and deterministic' (their statements: YtbghajfpjjfjcaaTotals.lean).
  GIVEN WITH THE SEED: the statements are not yours to turn. If you find one false, say at which input.
  Laid BY PROGRAM, IN A SANDBOX (cutbox-rows.mjs): the forced cells as the released guide's own fill.sh prints them over the translation d8c2de19aec03977… (all of the seat's roots in one cut). By AI agents, Wed Nov 11 2026. No macro, syntax, notation, axiom, sorry.
-/
import Derived.Test.YtbghajfpjjfjcaaChecked
import GoSem.Claim
import GoSem.ClaimJoined
import GoSem.ClaimMapViews
import Derived.JoinedTies
import Derived.KernelRfl
namespace Go.Proofs.Ytbghajfpjjfjcaa
/- THE CELL 'sum', in the pinned program and in every row, IS THE sha256 OF THE DUMP (.gsa) THAT YtbghajfpjjfjcaaProg.lean LOADS. Nothing in Lean hashes anything: it is a label: what it is worth is what the hold of that sum in a sandbox is worth. -/
noncomputable def Try.pinned : Pinned := { name := "ytbghajfpjjfjcaa", sum := "d8c2de19aec03977abad9ca808f66cd3815a110869e45d1fc7a51186d52a1ab3", checked := Try.checked }
namespace Rows
def none {H : Type} : Left H := { results := [], args := [] }

/-- 'tidewalllaw08.SpreadReaches': WHATEVER THE INPUT: true; the input reads as it did. -/
def spreadReachesSpec : ChangeSpec := { name := "spreadReaches", fn := fun _ => fun
  | [d1, d2, d3, d4] => { results := [.lit (.bool true)], args := [d1, d2, d3, d4] }
  | _ => none }
def spreadReachesRow : OpenClaim := { program := "ytbghajfpjjfjcaa", sum := "d8c2de19aec03977abad9ca808f66cd3815a110869e45d1fc7a51186d52a1ab3", func := "tidewall/tidewalllaw08.SpreadReaches", spec := "spreadReaches", unfollowed := true, recurses := true, apart := false }
def SpreadReachesSaid : Prop := spreadReachesRow.holds Try.pinned (OpenSpec.ofChange spreadReachesSpec)

/-- ITS FALSE NEIGHBOUR: 'it returns false'. Refute it at one input. -/
def spreadReachesWrong : ChangeSpec := { name := "spreadReaches", fn := fun _ => fun
  | [d1, d2, d3, d4] => { results := [.lit (.bool false)], args := [d1, d2, d3, d4] }
  | _ => none }
def SpreadReachesWrongFalsely : Prop := spreadReachesRow.holds Try.pinned (OpenSpec.ofChange spreadReachesWrong)

/-- 'tidewalllaw08.SpreadTests': WHATEVER THE INPUT: true; the input reads as it did. -/
def spreadTestsSpec : ChangeSpec := { name := "spreadTests", fn := fun _ => fun
  | [d1, d2, d3, d4] => { results := [.lit (.bool true)], args := [d1, d2, d3, d4] }
  | _ => none }
def spreadTestsRow : OpenClaim := { program := "ytbghajfpjjfjcaa", sum := "d8c2de19aec03977abad9ca808f66cd3815a110869e45d1fc7a51186d52a1ab3", func := "tidewall/tidewalllaw08.SpreadTests", spec := "spreadTests", unfollowed := true, recurses := true, apart := false }
def SpreadTestsSaid : Prop := spreadTestsRow.holds Try.pinned (OpenSpec.ofChange spreadTestsSpec)

/-- ITS FALSE NEIGHBOUR: 'it returns false'. Refute it at one input. -/
def spreadTestsWrong : ChangeSpec := { name := "spreadTests", fn := fun _ => fun
  | [d1, d2, d3, d4] => { results := [.lit (.bool false)], args := [d1, d2, d3, d4] }
  | _ => none }
def SpreadTestsWrongFalsely : Prop := spreadTestsRow.holds Try.pinned (OpenSpec.ofChange spreadTestsWrong)

/-- 'tidewalllaw08.SpreadWorsts': WHATEVER THE INPUT: true; the input reads as it did. -/
def spreadWorstsSpec : ChangeSpec := { name := "spreadWorsts", fn := fun _ => fun
  | [d1, d2, d3, d4, d5] => { results := [.lit (.bool true)], args := [d1, d2, d3, d4, d5] }
  | _ => none }
def spreadWorstsRow : OpenClaim := { program := "ytbghajfpjjfjcaa", sum := "d8c2de19aec03977abad9ca808f66cd3815a110869e45d1fc7a51186d52a1ab3", func := "tidewall/tidewalllaw08.SpreadWorsts", spec := "spreadWorsts", unfollowed := true, recurses := true, apart := false }
def SpreadWorstsSaid : Prop := spreadWorstsRow.holds Try.pinned (OpenSpec.ofChange spreadWorstsSpec)

/-- ITS FALSE NEIGHBOUR: 'it returns false'. Refute it at one input. -/
def spreadWorstsWrong : ChangeSpec := { name := "spreadWorsts", fn := fun _ => fun
  | [d1, d2, d3, d4, d5] => { results := [.lit (.bool false)], args := [d1, d2, d3, d4, d5] }
  | _ => none }
def SpreadWorstsWrongFalsely : Prop := spreadWorstsRow.holds Try.pinned (OpenSpec.ofChange spreadWorstsWrong)

/-- 'tidewalllaw08.SpreadBlames': WHATEVER THE INPUT: true; the input reads as it did. -/
def spreadBlamesSpec : ChangeSpec := { name := "spreadBlames", fn := fun _ => fun
  | [d1, d2, d3, d4, d5] => { results := [.lit (.bool true)], args := [d1, d2, d3, d4, d5] }
  | _ => none }
def spreadBlamesRow : OpenClaim := { program := "ytbghajfpjjfjcaa", sum := "d8c2de19aec03977abad9ca808f66cd3815a110869e45d1fc7a51186d52a1ab3", func := "tidewall/tidewalllaw08.SpreadBlames", spec := "spreadBlames", unfollowed := true, recurses := true, apart := false }
def SpreadBlamesSaid : Prop := spreadBlamesRow.holds Try.pinned (OpenSpec.ofChange spreadBlamesSpec)

/-- ITS FALSE NEIGHBOUR: 'it returns false'. Refute it at one input. -/
def spreadBlamesWrong : ChangeSpec := { name := "spreadBlames", fn := fun _ => fun
  | [d1, d2, d3, d4, d5] => { results := [.lit (.bool false)], args := [d1, d2, d3, d4, d5] }
  | _ => none }
def SpreadBlamesWrongFalsely : Prop := spreadBlamesRow.holds Try.pinned (OpenSpec.ofChange spreadBlamesWrong)

/-- 'tidewalllaw08.SpreadRuns': WHATEVER THE INPUT: true; the input reads as it did. -/
def spreadRunsSpec : ChangeSpec := { name := "spreadRuns", fn := fun _ => fun
  | [d1, d2, d3, d4] => { results := [.lit (.bool true)], args := [d1, d2, d3, d4] }
  | _ => none }
def spreadRunsRow : OpenClaim := { program := "ytbghajfpjjfjcaa", sum := "d8c2de19aec03977abad9ca808f66cd3815a110869e45d1fc7a51186d52a1ab3", func := "tidewall/tidewalllaw08.SpreadRuns", spec := "spreadRuns", unfollowed := true, recurses := true, apart := false }
def SpreadRunsSaid : Prop := spreadRunsRow.holds Try.pinned (OpenSpec.ofChange spreadRunsSpec)

/-- ITS FALSE NEIGHBOUR: 'it returns false'. Refute it at one input. -/
def spreadRunsWrong : ChangeSpec := { name := "spreadRuns", fn := fun _ => fun
  | [d1, d2, d3, d4] => { results := [.lit (.bool false)], args := [d1, d2, d3, d4] }
  | _ => none }
def SpreadRunsWrongFalsely : Prop := spreadRunsRow.holds Try.pinned (OpenSpec.ofChange spreadRunsWrong)

/-- 'tidewalllaw08.SpreadSure': WHATEVER THE INPUT: true; the input reads as it did. -/
def spreadSureSpec : ChangeSpec := { name := "spreadSure", fn := fun _ => fun
  | [d1, d2, d3, d4, d5, d6] => { results := [.lit (.bool true)], args := [d1, d2, d3, d4, d5, d6] }
  | _ => none }
def spreadSureRow : OpenClaim := { program := "ytbghajfpjjfjcaa", sum := "d8c2de19aec03977abad9ca808f66cd3815a110869e45d1fc7a51186d52a1ab3", func := "tidewall/tidewalllaw08.SpreadSure", spec := "spreadSure", unfollowed := true, recurses := true, apart := false }
def SpreadSureSaid : Prop := spreadSureRow.holds Try.pinned (OpenSpec.ofChange spreadSureSpec)

/-- ITS FALSE NEIGHBOUR: 'it returns false'. Refute it at one input. -/
def spreadSureWrong : ChangeSpec := { name := "spreadSure", fn := fun _ => fun
  | [d1, d2, d3, d4, d5, d6] => { results := [.lit (.bool false)], args := [d1, d2, d3, d4, d5, d6] }
  | _ => none }
def SpreadSureWrongFalsely : Prop := spreadSureRow.holds Try.pinned (OpenSpec.ofChange spreadSureWrong)

/-- 'tidewalllaw08.SpreadFewer': WHATEVER THE INPUT: true; the input reads as it did. -/
def spreadFewerSpec : ChangeSpec := { name := "spreadFewer", fn := fun _ => fun
  | [d1, d2, d3, d4, d5, d6, d7] => { results := [.lit (.bool true)], args := [d1, d2, d3, d4, d5, d6, d7] }
  | _ => none }
def spreadFewerRow : OpenClaim := { program := "ytbghajfpjjfjcaa", sum := "d8c2de19aec03977abad9ca808f66cd3815a110869e45d1fc7a51186d52a1ab3", func := "tidewall/tidewalllaw08.SpreadFewer", spec := "spreadFewer", unfollowed := true, recurses := true, apart := false }
def SpreadFewerSaid : Prop := spreadFewerRow.holds Try.pinned (OpenSpec.ofChange spreadFewerSpec)

/-- ITS FALSE NEIGHBOUR: 'it returns false'. Refute it at one input. -/
def spreadFewerWrong : ChangeSpec := { name := "spreadFewer", fn := fun _ => fun
  | [d1, d2, d3, d4, d5, d6, d7] => { results := [.lit (.bool false)], args := [d1, d2, d3, d4, d5, d6, d7] }
  | _ => none }
def SpreadFewerWrongFalsely : Prop := spreadFewerRow.holds Try.pinned (OpenSpec.ofChange spreadFewerWrong)

/-- 'tidewalllaw08.SpreadBlamed': WHATEVER THE INPUT: true; the input reads as it did. -/
def spreadBlamedSpec : ChangeSpec := { name := "spreadBlamed", fn := fun _ => fun
  | [d1, d2, d3, d4, d5] => { results := [.lit (.bool true)], args := [d1, d2, d3, d4, d5] }
  | _ => none }
def spreadBlamedRow : OpenClaim := { program := "ytbghajfpjjfjcaa", sum := "d8c2de19aec03977abad9ca808f66cd3815a110869e45d1fc7a51186d52a1ab3", func := "tidewall/tidewalllaw08.SpreadBlamed", spec := "spreadBlamed", unfollowed := true, recurses := true, apart := false }
def SpreadBlamedSaid : Prop := spreadBlamedRow.holds Try.pinned (OpenSpec.ofChange spreadBlamedSpec)

/-- ITS FALSE NEIGHBOUR: 'it returns false'. Refute it at one input. -/
def spreadBlamedWrong : ChangeSpec := { name := "spreadBlamed", fn := fun _ => fun
  | [d1, d2, d3, d4, d5] => { results := [.lit (.bool false)], args := [d1, d2, d3, d4, d5] }
  | _ => none }
def SpreadBlamedWrongFalsely : Prop := spreadBlamedRow.holds Try.pinned (OpenSpec.ofChange spreadBlamedWrong)

/-- 'tidewalllaw08.SpreadTrue': WHATEVER THE INPUT: true; the input reads as it did. -/
def spreadTrueSpec : ChangeSpec := { name := "spreadTrue", fn := fun _ => fun
  | [d1, d2, d3, d4] => { results := [.lit (.bool true)], args := [d1, d2, d3, d4] }
  | _ => none }
def spreadTrueRow : OpenClaim := { program := "ytbghajfpjjfjcaa", sum := "d8c2de19aec03977abad9ca808f66cd3815a110869e45d1fc7a51186d52a1ab3", func := "tidewall/tidewalllaw08.SpreadTrue", spec := "spreadTrue", unfollowed := true, recurses := true, apart := false }
def SpreadTrueSaid : Prop := spreadTrueRow.holds Try.pinned (OpenSpec.ofChange spreadTrueSpec)

/-- ITS FALSE NEIGHBOUR: 'it returns false'. Refute it at one input. -/
def spreadTrueWrong : ChangeSpec := { name := "spreadTrue", fn := fun _ => fun
  | [d1, d2, d3, d4] => { results := [.lit (.bool false)], args := [d1, d2, d3, d4] }
  | _ => none }
def SpreadTrueWrongFalsely : Prop := spreadTrueRow.holds Try.pinned (OpenSpec.ofChange spreadTrueWrong)

/-- 'tidewalllaw08.SpreadKnown': WHATEVER THE INPUT: true; the input reads as it did. -/
def spreadKnownSpec : ChangeSpec := { name := "spreadKnown", fn := fun _ => fun
  | [] => { results := [.lit (.bool true)], args := [] }
  | _ => none }
def spreadKnownRow : OpenClaim := { program := "ytbghajfpjjfjcaa", sum := "d8c2de19aec03977abad9ca808f66cd3815a110869e45d1fc7a51186d52a1ab3", func := "tidewall/tidewalllaw08.SpreadKnown", spec := "spreadKnown", unfollowed := true, recurses := true, apart := false }
def SpreadKnownSaid : Prop := spreadKnownRow.holds Try.pinned (OpenSpec.ofChange spreadKnownSpec)

/-- ITS FALSE NEIGHBOUR: 'it returns false'. Refute it at one input. -/
def spreadKnownWrong : ChangeSpec := { name := "spreadKnown", fn := fun _ => fun
  | [] => { results := [.lit (.bool false)], args := [] }
  | _ => none }
def SpreadKnownWrongFalsely : Prop := spreadKnownRow.holds Try.pinned (OpenSpec.ofChange spreadKnownWrong)

/-- 'tidewalltop.TopReached': WHATEVER THE INPUT: true; the input reads as it did. -/
def topReachedSpec : ChangeSpec := { name := "topReached", fn := fun _ => fun
  | [d] => { results := [.lit (.bool true)], args := [d] }
  | _ => none }
def topReachedRow : OpenClaim := { program := "ytbghajfpjjfjcaa", sum := "d8c2de19aec03977abad9ca808f66cd3815a110869e45d1fc7a51186d52a1ab3", func := "tidewall/tidewalltop.TopReached", spec := "topReached", unfollowed := true, recurses := true, apart := false }
def TopReachedSaid : Prop := topReachedRow.holds Try.pinned (OpenSpec.ofChange topReachedSpec)

/-- ITS FALSE NEIGHBOUR: 'it returns false'. Refute it at one input. -/
def topReachedWrong : ChangeSpec := { name := "topReached", fn := fun _ => fun
  | [d] => { results := [.lit (.bool false)], args := [d] }
  | _ => none }
def TopReachedWrongFalsely : Prop := topReachedRow.holds Try.pinned (OpenSpec.ofChange topReachedWrong)

/- THE SECOND FORM. 'bulk': how many values and letters a reading holds, each counted each time it is reached (what is shared counts as often as it is met; a slice's spare places count too). A statement '..UptoSaid' is the law's where the arguments, and the package variables that the reading takes, are together of bulk at most 1048576: NARROWER than '..Said'. Prove '..Said' where nothing that the law and all that it calls make is longer than what came in: it says more and counts as full. Else prove '..UptoSaid'. A law counts once. -/
mutual
def uptoBulk {H : Type} : DataW H → Nat
  | .lit (.string bytes) => bytes.length + 1
  | .lit _ => 1
  | .nil => 1
  | .ptr d => uptoBulk d + 1
  | .slice elems spare => uptoBulkAll elems + uptoBulkAll spare + 1
  | .agg parts => uptoBulkAll parts + 1
  | .iface _ d => uptoBulk d + 1
  | .map entries => uptoBulkEntries entries + 1
  | .held _ => 1
def uptoBulkAll {H : Type} : List (DataW H) → Nat
  | [] => 0
  | d :: r => uptoBulk d + uptoBulkAll r
def uptoBulkEntries {H : Type} : List (Lit × DataW H) → Nat
  | [] => 0
  | x :: r => uptoBulkEntry x + uptoBulkEntries r
def uptoBulkEntry {H : Type} : Lit × DataW H → Nat
  | (.string bytes, d) => bytes.length + uptoBulk d + 1
  | (_, d) => uptoBulk d + 1
 end
def uptoSmall : (H : Type) → List (DataW H) → Bool := fun _ ds => decide (uptoBulkAll ds ≤ 1048576)
def OpenSpec.upto (s : _root_.Go.ChangeSpec) : _root_.Go.OpenSpec := { _root_.Go.OpenSpec.ofChange s with cond := some uptoSmall }

/-- 'tidewalllaw08.SpreadReaches', WHERE WHAT IT READS IS OF BULK AT MOST 1048576: true; the input reads as it did. -/
def spreadReachesUptoRow : OpenClaim := { program := "ytbghajfpjjfjcaa", sum := "d8c2de19aec03977abad9ca808f66cd3815a110869e45d1fc7a51186d52a1ab3", func := "tidewall/tidewalllaw08.SpreadReaches", spec := "spreadReaches", unfollowed := true, recurses := true, apart := false, narrowed := true }
def SpreadReachesUptoSaid : Prop := spreadReachesUptoRow.holds Try.pinned (OpenSpec.upto spreadReachesSpec)

/-- 'tidewalllaw08.SpreadTests', WHERE WHAT IT READS IS OF BULK AT MOST 1048576: true; the input reads as it did. -/
def spreadTestsUptoRow : OpenClaim := { program := "ytbghajfpjjfjcaa", sum := "d8c2de19aec03977abad9ca808f66cd3815a110869e45d1fc7a51186d52a1ab3", func := "tidewall/tidewalllaw08.SpreadTests", spec := "spreadTests", unfollowed := true, recurses := true, apart := false, narrowed := true }
def SpreadTestsUptoSaid : Prop := spreadTestsUptoRow.holds Try.pinned (OpenSpec.upto spreadTestsSpec)

/-- 'tidewalllaw08.SpreadWorsts', WHERE WHAT IT READS IS OF BULK AT MOST 1048576: true; the input reads as it did. -/
def spreadWorstsUptoRow : OpenClaim := { program := "ytbghajfpjjfjcaa", sum := "d8c2de19aec03977abad9ca808f66cd3815a110869e45d1fc7a51186d52a1ab3", func := "tidewall/tidewalllaw08.SpreadWorsts", spec := "spreadWorsts", unfollowed := true, recurses := true, apart := false, narrowed := true }
def SpreadWorstsUptoSaid : Prop := spreadWorstsUptoRow.holds Try.pinned (OpenSpec.upto spreadWorstsSpec)

/-- 'tidewalllaw08.SpreadBlames', WHERE WHAT IT READS IS OF BULK AT MOST 1048576: true; the input reads as it did. -/
def spreadBlamesUptoRow : OpenClaim := { program := "ytbghajfpjjfjcaa", sum := "d8c2de19aec03977abad9ca808f66cd3815a110869e45d1fc7a51186d52a1ab3", func := "tidewall/tidewalllaw08.SpreadBlames", spec := "spreadBlames", unfollowed := true, recurses := true, apart := false, narrowed := true }
def SpreadBlamesUptoSaid : Prop := spreadBlamesUptoRow.holds Try.pinned (OpenSpec.upto spreadBlamesSpec)

/-- 'tidewalllaw08.SpreadRuns', WHERE WHAT IT READS IS OF BULK AT MOST 1048576: true; the input reads as it did. -/
def spreadRunsUptoRow : OpenClaim := { program := "ytbghajfpjjfjcaa", sum := "d8c2de19aec03977abad9ca808f66cd3815a110869e45d1fc7a51186d52a1ab3", func := "tidewall/tidewalllaw08.SpreadRuns", spec := "spreadRuns", unfollowed := true, recurses := true, apart := false, narrowed := true }
def SpreadRunsUptoSaid : Prop := spreadRunsUptoRow.holds Try.pinned (OpenSpec.upto spreadRunsSpec)

/-- 'tidewalllaw08.SpreadSure', WHERE WHAT IT READS IS OF BULK AT MOST 1048576: true; the input reads as it did. -/
def spreadSureUptoRow : OpenClaim := { program := "ytbghajfpjjfjcaa", sum := "d8c2de19aec03977abad9ca808f66cd3815a110869e45d1fc7a51186d52a1ab3", func := "tidewall/tidewalllaw08.SpreadSure", spec := "spreadSure", unfollowed := true, recurses := true, apart := false, narrowed := true }
def SpreadSureUptoSaid : Prop := spreadSureUptoRow.holds Try.pinned (OpenSpec.upto spreadSureSpec)

/-- 'tidewalllaw08.SpreadFewer', WHERE WHAT IT READS IS OF BULK AT MOST 1048576: true; the input reads as it did. -/
def spreadFewerUptoRow : OpenClaim := { program := "ytbghajfpjjfjcaa", sum := "d8c2de19aec03977abad9ca808f66cd3815a110869e45d1fc7a51186d52a1ab3", func := "tidewall/tidewalllaw08.SpreadFewer", spec := "spreadFewer", unfollowed := true, recurses := true, apart := false, narrowed := true }
def SpreadFewerUptoSaid : Prop := spreadFewerUptoRow.holds Try.pinned (OpenSpec.upto spreadFewerSpec)

/-- 'tidewalllaw08.SpreadBlamed', WHERE WHAT IT READS IS OF BULK AT MOST 1048576: true; the input reads as it did. -/
def spreadBlamedUptoRow : OpenClaim := { program := "ytbghajfpjjfjcaa", sum := "d8c2de19aec03977abad9ca808f66cd3815a110869e45d1fc7a51186d52a1ab3", func := "tidewall/tidewalllaw08.SpreadBlamed", spec := "spreadBlamed", unfollowed := true, recurses := true, apart := false, narrowed := true }
def SpreadBlamedUptoSaid : Prop := spreadBlamedUptoRow.holds Try.pinned (OpenSpec.upto spreadBlamedSpec)

/-- 'tidewalllaw08.SpreadTrue', WHERE WHAT IT READS IS OF BULK AT MOST 1048576: true; the input reads as it did. -/
def spreadTrueUptoRow : OpenClaim := { program := "ytbghajfpjjfjcaa", sum := "d8c2de19aec03977abad9ca808f66cd3815a110869e45d1fc7a51186d52a1ab3", func := "tidewall/tidewalllaw08.SpreadTrue", spec := "spreadTrue", unfollowed := true, recurses := true, apart := false, narrowed := true }
def SpreadTrueUptoSaid : Prop := spreadTrueUptoRow.holds Try.pinned (OpenSpec.upto spreadTrueSpec)

/-- 'tidewalllaw08.SpreadKnown', WHERE WHAT IT READS IS OF BULK AT MOST 1048576: true; the input reads as it did. -/
def spreadKnownUptoRow : OpenClaim := { program := "ytbghajfpjjfjcaa", sum := "d8c2de19aec03977abad9ca808f66cd3815a110869e45d1fc7a51186d52a1ab3", func := "tidewall/tidewalllaw08.SpreadKnown", spec := "spreadKnown", unfollowed := true, recurses := true, apart := false, narrowed := true }
def SpreadKnownUptoSaid : Prop := spreadKnownUptoRow.holds Try.pinned (OpenSpec.upto spreadKnownSpec)

/-- 'tidewalltop.TopReached', WHERE WHAT IT READS IS OF BULK AT MOST 1048576: true; the input reads as it did. -/
def topReachedUptoRow : OpenClaim := { program := "ytbghajfpjjfjcaa", sum := "d8c2de19aec03977abad9ca808f66cd3815a110869e45d1fc7a51186d52a1ab3", func := "tidewall/tidewalltop.TopReached", spec := "topReached", unfollowed := true, recurses := true, apart := false, narrowed := true }
def TopReachedUptoSaid : Prop := topReachedUptoRow.holds Try.pinned (OpenSpec.upto topReachedSpec)

end Rows
end Go.Proofs.Ytbghajfpjjfjcaa
