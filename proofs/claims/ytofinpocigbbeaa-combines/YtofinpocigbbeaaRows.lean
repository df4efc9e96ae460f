/-
  No cell of these rows narrows 'for every input' (looked for: loops, veiled, ifaces, maps, wideKeys, modest, calm, conditions, laid).
  DERIVED. THE GIVEN ROWS OF THIS SEAT. 4 by the template 'for every input the law returns true; each argument reads behind the call as it read before'; 0 by the template 'total and deterministic' (their statements: YtofinpocigbbeaaTotals.lean).
  GIVEN WITH THE SEED: the statements are not yours to turn. If you find one false, say at which input.
  Laid BY PROGRAM, IN A SANDBOX (cutbox-rows.mjs): the forced cells as the released guide's own fill.sh prints them over the translation 142c6e54a74e55e4… (all of the seat's roots in one cut). By AI agents, Wed Nov 11 2026. No macro, syntax, notation, axiom, sorry.
-/
import Derived.Test.YtofinpocigbbeaaChecked
import GoSem.Claim
import GoSem.ClaimJoined
import GoSem.ClaimMapViews
import Derived.JoinedTies
import Derived.KernelRfl
namespace Go.Proofs.Ytofinpocigbbeaa
/- THE CELL 'sum', in the pinned program and in every row, IS THE sha256 OF THE DUMP (.gsa) THAT YtofinpocigbbeaaProg.lean LOADS. Nothing in Lean hashes anything: it is a label: what it is worth is what the hold of that sum in a sandbox is worth. -/
noncomputable def Try.pinned : Pinned := { name := "ytofinpocigbbeaa", sum := "142c6e54a74e55e4a18e0c89e647738b5262d21c9dbd319549d141bf2d0cb8de", checked := Try.checked }
namespace Rows
def none {H : Type} : Left H := { results := [], args := [] }

/-- 'panelaw.Combines': WHATEVER THE INPUT: true; the input reads as it did. -/
def combinesSpec : ChangeSpec := { name := "combines", fn := fun _ => fun
  | [d1, d2, d3] => { results := [.lit (.bool true)], args := [d1, d2, d3] }
  | _ => none }
def combinesRow : OpenClaim := { program := "ytofinpocigbbeaa", sum := "142c6e54a74e55e4a18e0c89e647738b5262d21c9dbd319549d141bf2d0cb8de", func := "pane/panelaw.Combines", spec := "combines", apart := false }
def CombinesSaid : Prop := combinesRow.holds Try.pinned (OpenSpec.ofChange combinesSpec)

/-- ITS FALSE NEIGHBOUR: 'it returns false'. Refute it at one input. -/
def combinesWrong : ChangeSpec := { name := "combines", fn := fun _ => fun
  | [d1, d2, d3] => { results := [.lit (.bool false)], args := [d1, d2, d3] }
  | _ => none }
def CombinesWrongFalsely : Prop := combinesRow.holds Try.pinned (OpenSpec.ofChange combinesWrong)

/-- 'panelaw.Overs': WHATEVER THE INPUT: true; the input reads as it did. -/
def oversSpec : ChangeSpec := { name := "overs", fn := fun _ => fun
  | [d1, d2] => { results := [.lit (.bool true)], args := [d1, d2] }
  | _ => none }
def oversRow : OpenClaim := { program := "ytofinpocigbbeaa", sum := "142c6e54a74e55e4a18e0c89e647738b5262d21c9dbd319549d141bf2d0cb8de", func := "pane/panelaw.Overs", spec := "overs", apart := false }
def OversSaid : Prop := oversRow.holds Try.pinned (OpenSpec.ofChange oversSpec)

/-- ITS FALSE NEIGHBOUR: 'it returns false'. Refute it at one input. -/
def oversWrong : ChangeSpec := { name := "overs", fn := fun _ => fun
  | [d1, d2] => { results := [.lit (.bool false)], args := [d1, d2] }
  | _ => none }
def OversWrongFalsely : Prop := oversRow.holds Try.pinned (OpenSpec.ofChange oversWrong)

/-- 'panekeep.Combined': WHATEVER THE INPUT: true; the input reads as it did. -/
def combinedSpec : ChangeSpec := { name := "combined", fn := fun _ => fun
  | [d1, d2, d3] => { results := [.lit (.bool true)], args := [d1, d2, d3] }
  | _ => none }
def combinedRow : OpenClaim := { program := "ytofinpocigbbeaa", sum := "142c6e54a74e55e4a18e0c89e647738b5262d21c9dbd319549d141bf2d0cb8de", func := "pane/panekeep.Combined", spec := "combined", apart := false }
def CombinedSaid : Prop := combinedRow.holds Try.pinned (OpenSpec.ofChange combinedSpec)

/-- ITS FALSE NEIGHBOUR: 'it returns false'. Refute it at one input. -/
def combinedWrong : ChangeSpec := { name := "combined", fn := fun _ => fun
  | [d1, d2, d3] => { results := [.lit (.bool false)], args := [d1, d2, d3] }
  | _ => none }
def CombinedWrongFalsely : Prop := combinedRow.holds Try.pinned (OpenSpec.ofChange combinedWrong)

/-- 'panekeep.Laid': WHATEVER THE INPUT: true; the input reads as it did. -/
def laidSpec : ChangeSpec := { name := "laid", fn := fun _ => fun
  | [d1, d2] => { results := [.lit (.bool true)], args := [d1, d2] }
  | _ => none }
def laidRow : OpenClaim := { program := "ytofinpocigbbeaa", sum := "142c6e54a74e55e4a18e0c89e647738b5262d21c9dbd319549d141bf2d0cb8de", func := "pane/panekeep.Laid", spec := "laid", apart := false }
def LaidSaid : Prop := laidRow.holds Try.pinned (OpenSpec.ofChange laidSpec)

/-- ITS FALSE NEIGHBOUR: 'it returns false'. Refute it at one input. -/
def laidWrong : ChangeSpec := { name := "laid", fn := fun _ => fun
  | [d1, d2] => { results := [.lit (.bool false)], args := [d1, d2] }
  | _ => none }
def LaidWrongFalsely : Prop := laidRow.holds Try.pinned (OpenSpec.ofChange laidWrong)

/- THE SECOND FORM. 'bulk': how many values and letters a reading holds, each counted each time it is reached (what is shared counts as often as it is met; a slice's spare places count too). A statement '..UptoSaid' is the law's where the arguments, and the package variables that the reading takes, are together of bulk at most 1048576: NARROWER than '..Said'. Prove '..Said' where nothing that the law and all that it calls make is longer than what came in: it says more and counts as full. Else prove '..UptoSaid'. A law counts once. -/
mutual
def uptoBulk {H : Type} : DataW H → Nat
  | .lit (.string bytes) => bytes.length + 1
  | .lit _ => 1
  | .nil => 1
  | .ptr d => uptoBulk d + 1
  | .slice elems spare => uptoBulkAll elems + uptoBulkAll spare + 1
  | .agg parts => uptoBulkAll parts + 1
  | .iface _ d => uptoBulk d + 1
  | .map entries => uptoBulkEntries entries + 1
  | .held _ => 1
def uptoBulkAll {H : Type} : List (DataW H) → Nat
  | [] => 0
  | d :: r => uptoBulk d + uptoBulkAll r
def uptoBulkEntries {H : Type} : List (Lit × DataW H) → Nat
  | [] => 0
  | x :: r => uptoBulkEntry x + uptoBulkEntries r
def uptoBulkEntry {H : Type} : Lit × DataW H → Nat
  | (.string bytes, d) => bytes.length + uptoBulk d + 1
  | (_, d) => uptoBulk d + 1
 end
def uptoSmall : (H : Type) → List (DataW H) → Bool := fun _ ds => decide (uptoBulkAll ds ≤ 1048576)
def OpenSpec.upto (s : _root_.Go.ChangeSpec) : _root_.Go.OpenSpec := { _root_.Go.OpenSpec.ofChange s with cond := some uptoSmall }

/-- 'panelaw.Combines', WHERE WHAT IT READS IS OF BULK AT MOST 1048576: true; the input reads as it did. -/
def combinesUptoRow : OpenClaim := { program := "ytofinpocigbbeaa", sum := "142c6e54a74e55e4a18e0c89e647738b5262d21c9dbd319549d141bf2d0cb8de", func := "pane/panelaw.Combines", spec := "combines", apart := false, narrowed := true }
def CombinesUptoSaid : Prop := combinesUptoRow.holds Try.pinned (OpenSpec.upto combinesSpec)

/-- 'panelaw.Overs', WHERE WHAT IT READS IS OF BULK AT MOST 1048576: true; the input reads as it did. -/
def oversUptoRow : OpenClaim := { program := "ytofinpocigbbeaa", sum := "142c6e54a74e55e4a18e0c89e647738b5262d21c9dbd319549d141bf2d0cb8de", func := "pane/panelaw.Overs", spec := "overs", apart := false, narrowed := true }
def OversUptoSaid : Prop := oversUptoRow.holds Try.pinned (OpenSpec.upto oversSpec)

/-- 'panekeep.Combined', WHERE WHAT IT READS IS OF BULK AT MOST 1048576: true; the input reads as it did. -/
def combinedUptoRow : OpenClaim := { program := "ytofinpocigbbeaa", sum := "142c6e54a74e55e4a18e0c89e647738b5262d21c9dbd319549d141bf2d0cb8de", func := "pane/panekeep.Combined", spec := "combined", apart := false, narrowed := true }
def CombinedUptoSaid : Prop := combinedUptoRow.holds Try.pinned (OpenSpec.upto combinedSpec)

/-- 'panekeep.Laid', WHERE WHAT IT READS IS OF BULK AT MOST 1048576: true; the input reads as it did. -/
def laidUptoRow : OpenClaim := { program := "ytofinpocigbbeaa", sum := "142c6e54a74e55e4a18e0c89e647738b5262d21c9dbd319549d141bf2d0cb8de", func := "pane/panekeep.Laid", spec := "laid", apart := false, narrowed := true }
def LaidUptoSaid : Prop := laidUptoRow.holds Try.pinned (OpenSpec.upto laidSpec)

end Rows
end Go.Proofs.Ytofinpocigbbeaa
