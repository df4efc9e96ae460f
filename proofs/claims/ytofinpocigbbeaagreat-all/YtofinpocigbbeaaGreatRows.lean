/-
  No cell of these rows narrows 'for every input' (looked for: loops, veiled, ifaces, maps, wideKeys, modest, calm, conditions, laid).
  DERIVED. THE GIVEN ROWS OF THIS SEAT. 8 by the template 'for every input the law returns true; each argument reads behind the call as it read before'; 0 by the template 'total and deterministic' (their statements: YtofinpocigbbeaaGreatTotals.lean).
  GIVEN WITH THE SEED: the statements are not yours to turn. If you find one false, say at which input.
  Laid BY PROGRAM, IN A SANDBOX (cutbox-rows.mjs): the forced cells as the released guide's own fill.sh prints them over the translation 7509d8b3bf1796a4… (all of the seat's roots in one cut). By AI agents, Wed Nov 11 2026. No macro, syntax, notation, axiom, sorry.
-/
import Derived.Test.YtofinpocigbbeaaGreatChecked
import GoSem.Claim
import GoSem.ClaimJoined
import GoSem.ClaimMapViews
import Derived.JoinedTies
import Derived.KernelRfl
namespace Go.Proofs.YtofinpocigbbeaaGreat
/- THE CELL 'sum', in the pinned program and in every row, IS THE sha256 OF THE DUMP (.gsa) THAT YtofinpocigbbeaaGreatProg.lean LOADS. Nothing in Lean hashes anything: it is a label: what it is worth is what the hold of that sum in a sandbox is worth. -/
noncomputable def Tryz.pinned : Pinned := { name := "ytofinpocigbbeaagreat", sum := "7509d8b3bf1796a4936d5eb5edea154499952d6d1f67521bf37296a566cf17ec", checked := Tryz.checked }
namespace Rows
def none {H : Type} : Left H := { results := [], args := [] }

/-- 'panelaw.Scenes': WHATEVER THE INPUT: true; the input reads as it did. -/
def scenesSpec : ChangeSpec := { name := "scenes", fn := fun _ => fun
  | [d] => { results := [.lit (.bool true)], args := [d] }
  | _ => none }
def scenesRow : OpenClaim := { program := "ytofinpocigbbeaagreat", sum := "7509d8b3bf1796a4936d5eb5edea154499952d6d1f67521bf37296a566cf17ec", func := "pane/panelaw.Scenes", spec := "scenes", inPlace := ["slices.overlaps[*pane/scene.Surface]"], unfollowed := true, recurses := true, apart := false }
def ScenesSaid : Prop := scenesRow.holds Tryz.pinned (OpenSpec.ofChange scenesSpec)

/-- ITS FALSE NEIGHBOUR: 'it returns false'. Refute it at one input. -/
def scenesWrong : ChangeSpec := { name := "scenes", fn := fun _ => fun
  | [d] => { results := [.lit (.bool false)], args := [d] }
  | _ => none }
def ScenesWrongFalsely : Prop := scenesRow.holds Tryz.pinned (OpenSpec.ofChange scenesWrong)

/-- 'panelaw.Paints': WHATEVER THE INPUT: true; the input reads as it did. -/
def paintsSpec : ChangeSpec := { name := "paints", fn := fun _ => fun
  | [d] => { results := [.lit (.bool true)], args := [d] }
  | _ => none }
def paintsRow : OpenClaim := { program := "ytofinpocigbbeaagreat", sum := "7509d8b3bf1796a4936d5eb5edea154499952d6d1f67521bf37296a566cf17ec", func := "pane/panelaw.Paints", spec := "paints", inPlace := ["slices.overlaps[*pane/scene.Surface]"], unfollowed := true, recurses := true, apart := false }
def PaintsSaid : Prop := paintsRow.holds Tryz.pinned (OpenSpec.ofChange paintsSpec)

/-- ITS FALSE NEIGHBOUR: 'it returns false'. Refute it at one input. -/
def paintsWrong : ChangeSpec := { name := "paints", fn := fun _ => fun
  | [d] => { results := [.lit (.bool false)], args := [d] }
  | _ => none }
def PaintsWrongFalsely : Prop := paintsRow.holds Tryz.pinned (OpenSpec.ofChange paintsWrong)

/-- 'panelaw.Hides': WHATEVER THE INPUT: true; the input reads as it did. -/
def hidesSpec : ChangeSpec := { name := "hides", fn := fun _ => fun
  | [d] => { results := [.lit (.bool true)], args := [d] }
  | _ => none }
def hidesRow : OpenClaim := { program := "ytofinpocigbbeaagreat", sum := "7509d8b3bf1796a4936d5eb5edea154499952d6d1f67521bf37296a566cf17ec", func := "pane/panelaw.Hides", spec := "hides", inPlace := ["slices.overlaps[*pane/scene.Surface]"], unfollowed := true, recurses := true, apart := false }
def HidesSaid : Prop := hidesRow.holds Tryz.pinned (OpenSpec.ofChange hidesSpec)

/-- ITS FALSE NEIGHBOUR: 'it returns false'. Refute it at one input. -/
def hidesWrong : ChangeSpec := { name := "hides", fn := fun _ => fun
  | [d] => { results := [.lit (.bool false)], args := [d] }
  | _ => none }
def HidesWrongFalsely : Prop := hidesRow.holds Tryz.pinned (OpenSpec.ofChange hidesWrong)

/-- 'panelaw.All': WHATEVER THE INPUT: true; the input reads as it did. -/
def allSpec : ChangeSpec := { name := "all", fn := fun _ => fun
  | [d] => { results := [.lit (.bool true)], args := [d] }
  | _ => none }
def allRow : OpenClaim := { program := "ytofinpocigbbeaagreat", sum := "7509d8b3bf1796a4936d5eb5edea154499952d6d1f67521bf37296a566cf17ec", func := "pane/panelaw.All", spec := "all", inPlace := ["slices.overlaps[*pane/scene.Surface]"], unfollowed := true, recurses := true, apart := false }
def AllSaid : Prop := allRow.holds Tryz.pinned (OpenSpec.ofChange allSpec)

/-- ITS FALSE NEIGHBOUR: 'it returns false'. Refute it at one input. -/
def allWrong : ChangeSpec := { name := "all", fn := fun _ => fun
  | [d] => { results := [.lit (.bool false)], args := [d] }
  | _ => none }
def AllWrongFalsely : Prop := allRow.holds Tryz.pinned (OpenSpec.ofChange allWrong)

/-- 'panekeep.Settled': WHATEVER THE INPUT: true; the input reads as it did. -/
def settledSpec : ChangeSpec := { name := "settled", fn := fun _ => fun
  | [d1, d2] => { results := [.lit (.bool true)], args := [d1, d2] }
  | _ => none }
def settledRow : OpenClaim := { program := "ytofinpocigbbeaagreat", sum := "7509d8b3bf1796a4936d5eb5edea154499952d6d1f67521bf37296a566cf17ec", func := "pane/panekeep.Settled", spec := "settled", inPlace := ["slices.overlaps[*pane/scene.Surface]"], unfollowed := true, recurses := true, apart := false }
def SettledSaid : Prop := settledRow.holds Tryz.pinned (OpenSpec.ofChange settledSpec)

/-- ITS FALSE NEIGHBOUR: 'it returns false'. Refute it at one input. -/
def settledWrong : ChangeSpec := { name := "settled", fn := fun _ => fun
  | [d1, d2] => { results := [.lit (.bool false)], args := [d1, d2] }
  | _ => none }
def SettledWrongFalsely : Prop := settledRow.holds Tryz.pinned (OpenSpec.ofChange settledWrong)

/-- 'panekeep.Spared': WHATEVER THE INPUT: true; the input reads as it did. -/
def sparedSpec : ChangeSpec := { name := "spared", fn := fun _ => fun
  | [d1, d2] => { results := [.lit (.bool true)], args := [d1, d2] }
  | _ => none }
def sparedRow : OpenClaim := { program := "ytofinpocigbbeaagreat", sum := "7509d8b3bf1796a4936d5eb5edea154499952d6d1f67521bf37296a566cf17ec", func := "pane/panekeep.Spared", spec := "spared", inPlace := ["slices.overlaps[*pane/scene.Surface]"], unfollowed := true, recurses := true, apart := false }
def SparedSaid : Prop := sparedRow.holds Tryz.pinned (OpenSpec.ofChange sparedSpec)

/-- ITS FALSE NEIGHBOUR: 'it returns false'. Refute it at one input. -/
def sparedWrong : ChangeSpec := { name := "spared", fn := fun _ => fun
  | [d1, d2] => { results := [.lit (.bool false)], args := [d1, d2] }
  | _ => none }
def SparedWrongFalsely : Prop := sparedRow.holds Tryz.pinned (OpenSpec.ofChange sparedWrong)

/-- 'panekeep.Hinted': WHATEVER THE INPUT: true; the input reads as it did. -/
def hintedSpec : ChangeSpec := { name := "hinted", fn := fun _ => fun
  | [d] => { results := [.lit (.bool true)], args := [d] }
  | _ => none }
def hintedRow : OpenClaim := { program := "ytofinpocigbbeaagreat", sum := "7509d8b3bf1796a4936d5eb5edea154499952d6d1f67521bf37296a566cf17ec", func := "pane/panekeep.Hinted", spec := "hinted", inPlace := ["slices.overlaps[*pane/scene.Surface]"], unfollowed := true, recurses := true, apart := false }
def HintedSaid : Prop := hintedRow.holds Tryz.pinned (OpenSpec.ofChange hintedSpec)

/-- ITS FALSE NEIGHBOUR: 'it returns false'. Refute it at one input. -/
def hintedWrong : ChangeSpec := { name := "hinted", fn := fun _ => fun
  | [d] => { results := [.lit (.bool false)], args := [d] }
  | _ => none }
def HintedWrongFalsely : Prop := hintedRow.holds Tryz.pinned (OpenSpec.ofChange hintedWrong)

/-- 'panekeep.Patient': WHATEVER THE INPUT: true; the input reads as it did. -/
def patientSpec : ChangeSpec := { name := "patient", fn := fun _ => fun
  | [d1, d2] => { results := [.lit (.bool true)], args := [d1, d2] }
  | _ => none }
def patientRow : OpenClaim := { program := "ytofinpocigbbeaagreat", sum := "7509d8b3bf1796a4936d5eb5edea154499952d6d1f67521bf37296a566cf17ec", func := "pane/panekeep.Patient", spec := "patient", inPlace := ["slices.overlaps[*pane/scene.Surface]"], unfollowed := true, recurses := true, apart := false }
def PatientSaid : Prop := patientRow.holds Tryz.pinned (OpenSpec.ofChange patientSpec)

/-- ITS FALSE NEIGHBOUR: 'it returns false'. Refute it at one input. -/
def patientWrong : ChangeSpec := { name := "patient", fn := fun _ => fun
  | [d1, d2] => { results := [.lit (.bool false)], args := [d1, d2] }
  | _ => none }
def PatientWrongFalsely : Prop := patientRow.holds Tryz.pinned (OpenSpec.ofChange patientWrong)

/- THE SECOND FORM. 'bulk': how many values and letters a reading holds, each counted each time it is reached (what is shared counts as often as it is met; a slice's spare places count too). A statement '..UptoSaid' is the law's where the arguments, and the package variables that the reading takes, are together of bulk at most 1048576: NARROWER than '..Said'. Prove '..Said' where nothing that the law and all that it calls make is longer than what came in: it says more and counts as full. Else prove '..UptoSaid'. A law counts once. -/
mutual
def uptoBulk {H : Type} : DataW H → Nat
  | .lit (.string bytes) => bytes.length + 1
  | .lit _ => 1
  | .nil => 1
  | .ptr d => uptoBulk d + 1
  | .slice elems spare => uptoBulkAll elems + uptoBulkAll spare + 1
  | .agg parts => uptoBulkAll parts + 1
  | .iface _ d => uptoBulk d + 1
  | .map entries => uptoBulkEntries entries + 1
  | .held _ => 1
def uptoBulkAll {H : Type} : List (DataW H) → Nat
  | [] => 0
  | d :: r => uptoBulk d + uptoBulkAll r
def uptoBulkEntries {H : Type} : List (Lit × DataW H) → Nat
  | [] => 0
  | x :: r => uptoBulkEntry x + uptoBulkEntries r
def uptoBulkEntry {H : Type} : Lit × DataW H → Nat
  | (.string bytes, d) => bytes.length + uptoBulk d + 1
  | (_, d) => uptoBulk d + 1
 end
def uptoSmall : (H : Type) → List (DataW H) → Bool := fun _ ds => decide (uptoBulkAll ds ≤ 1048576)
def OpenSpec.upto (s : _root_.Go.ChangeSpec) : _root_.Go.OpenSpec := { _root_.Go.OpenSpec.ofChange s with cond := some uptoSmall }

/-- 'panelaw.Scenes', WHERE WHAT IT READS IS OF BULK AT MOST 1048576: true; the input reads as it did. -/
def scenesUptoRow : OpenClaim := { program := "ytofinpocigbbeaagreat", sum := "7509d8b3bf1796a4936d5eb5edea154499952d6d1f67521bf37296a566cf17ec", func := "pane/panelaw.Scenes", spec := "scenes", inPlace := ["slices.overlaps[*pane/scene.Surface]"], unfollowed := true, recurses := true, apart := false, narrowed := true }
def ScenesUptoSaid : Prop := scenesUptoRow.holds Tryz.pinned (OpenSpec.upto scenesSpec)

/-- 'panelaw.Paints', WHERE WHAT IT READS IS OF BULK AT MOST 1048576: true; the input reads as it did. -/
def paintsUptoRow : OpenClaim := { program := "ytofinpocigbbeaagreat", sum := "7509d8b3bf1796a4936d5eb5edea154499952d6d1f67521bf37296a566cf17ec", func := "pane/panelaw.Paints", spec := "paints", inPlace := ["slices.overlaps[*pane/scene.Surface]"], unfollowed := true, recurses := true, apart := false, narrowed := true }
def PaintsUptoSaid : Prop := paintsUptoRow.holds Tryz.pinned (OpenSpec.upto paintsSpec)

/-- 'panelaw.Hides', WHERE WHAT IT READS IS OF BULK AT MOST 1048576: true; the input reads as it did. -/
def hidesUptoRow : OpenClaim := { program := "ytofinpocigbbeaagreat", sum := "7509d8b3bf1796a4936d5eb5edea154499952d6d1f67521bf37296a566cf17ec", func := "pane/panelaw.Hides", spec := "hides", inPlace := ["slices.overlaps[*pane/scene.Surface]"], unfollowed := true, recurses := true, apart := false, narrowed := true }
def HidesUptoSaid : Prop := hidesUptoRow.holds Tryz.pinned (OpenSpec.upto hidesSpec)

/-- 'panelaw.All', WHERE WHAT IT READS IS OF BULK AT MOST 1048576: true; the input reads as it did. -/
def allUptoRow : OpenClaim := { program := "ytofinpocigbbeaagreat", sum := "7509d8b3bf1796a4936d5eb5edea154499952d6d1f67521bf37296a566cf17ec", func := "pane/panelaw.All", spec := "all", inPlace := ["slices.overlaps[*pane/scene.Surface]"], unfollowed := true, recurses := true, apart := false, narrowed := true }
def AllUptoSaid : Prop := allUptoRow.holds Tryz.pinned (OpenSpec.upto allSpec)

/-- 'panekeep.Settled', WHERE WHAT IT READS IS OF BULK AT MOST 1048576: true; the input reads as it did. -/
def settledUptoRow : OpenClaim := { program := "ytofinpocigbbeaagreat", sum := "7509d8b3bf1796a4936d5eb5edea154499952d6d1f67521bf37296a566cf17ec", func := "pane/panekeep.Settled", spec := "settled", inPlace := ["slices.overlaps[*pane/scene.Surface]"], unfollowed := true, recurses := true, apart := false, narrowed := true }
def SettledUptoSaid : Prop := settledUptoRow.holds Tryz.pinned (OpenSpec.upto settledSpec)

/-- 'panekeep.Spared', WHERE WHAT IT READS IS OF BULK AT MOST 1048576: true; the input reads as it did. -/
def sparedUptoRow : OpenClaim := { program := "ytofinpocigbbeaagreat", sum := "7509d8b3bf1796a4936d5eb5edea154499952d6d1f67521bf37296a566cf17ec", func := "pane/panekeep.Spared", spec := "spared", inPlace := ["slices.overlaps[*pane/scene.Surface]"], unfollowed := true, recurses := true, apart := false, narrowed := true }
def SparedUptoSaid : Prop := sparedUptoRow.holds Tryz.pinned (OpenSpec.upto sparedSpec)

/-- 'panekeep.Hinted', WHERE WHAT IT READS IS OF BULK AT MOST 1048576: true; the input reads as it did. -/
def hintedUptoRow : OpenClaim := { program := "ytofinpocigbbeaagreat", sum := "7509d8b3bf1796a4936d5eb5edea154499952d6d1f67521bf37296a566cf17ec", func := "pane/panekeep.Hinted", spec := "hinted", inPlace := ["slices.overlaps[*pane/scene.Surface]"], unfollowed := true, recurses := true, apart := false, narrowed := true }
def HintedUptoSaid : Prop := hintedUptoRow.holds Tryz.pinned (OpenSpec.upto hintedSpec)

/-- 'panekeep.Patient', WHERE WHAT IT READS IS OF BULK AT MOST 1048576: true; the input reads as it did. -/
def patientUptoRow : OpenClaim := { program := "ytofinpocigbbeaagreat", sum := "7509d8b3bf1796a4936d5eb5edea154499952d6d1f67521bf37296a566cf17ec", func := "pane/panekeep.Patient", spec := "patient", inPlace := ["slices.overlaps[*pane/scene.Surface]"], unfollowed := true, recurses := true, apart := false, narrowed := true }
def PatientUptoSaid : Prop := patientUptoRow.holds Tryz.pinned (OpenSpec.upto patientSpec)

end Rows
end Go.Proofs.YtofinpocigbbeaaGreat
