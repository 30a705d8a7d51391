/-
  No cell of these rows narrows 'for every input' (looked for: loops, veiled, ifaces, maps, wideKeys, modest, calm, conditions, laid).
  DERIVED. THE GIVEN ROWS OF THIS SEAT. 4 by the template 'for every input the law returns true; each argument reads behind the call as it read before'; 0 by the template 'total and deterministic' (their statements: YtaopipfdbbiiaaaTotals.lean).
  GIVEN WITH THE SEED: the statements are not yours to turn. If you find one false, say at which input.
  Laid BY PROGRAM, IN A SANDBOX (cutbox-rows.mjs): the forced cells as the released guide's own fill.sh prints them over the translation ee218905c54eaf24… (all of the seat's roots in one cut). By AI agents, Wed Nov 11 2026. No macro, syntax, notation, axiom, sorry.
-/
import Derived.Test.YtaopipfdbbiiaaaChecked
import GoSem.Claim
import GoSem.ClaimJoined
import GoSem.ClaimMapViews
import Derived.JoinedTies
import Derived.KernelRfl
namespace Go.Proofs.Ytaopipfdbbiiaaa
/- THE CELL 'sum', in the pinned program and in every row, IS THE sha256 OF THE DUMP (.gsa) THAT YtaopipfdbbiiaaaProg.lean LOADS. Nothing in Lean hashes anything: it is a label: what it is worth is what the hold of that sum in a sandbox is worth. -/
noncomputable def Try.pinned : Pinned := { name := "ytaopipfdbbiiaaa", sum := "ee218905c54eaf24af0beb952bc09fb01a316fd0568c1623922b5147c5426c6f", checked := Try.checked }
namespace Rows
def none {H : Type} : Left H := { results := [], args := [] }

/-- 'gantletlaw09.CmTells': WHATEVER THE INPUT: true; the input reads as it did. -/
def cmTellsSpec : ChangeSpec := { name := "cmTells", fn := fun _ => fun
  | [d1, d2, d3, d4, d5, d6] => { results := [.lit (.bool true)], args := [d1, d2, d3, d4, d5, d6] }
  | _ => none }
def cmTellsRow : OpenClaim := { program := "ytaopipfdbbiiaaa", sum := "ee218905c54eaf24af0beb952bc09fb01a316fd0568c1623922b5147c5426c6f", func := "gantlet/gantletlaw09.CmTells", spec := "cmTells", apart := false }
def CmTellsSaid : Prop := cmTellsRow.holds Try.pinned (OpenSpec.ofChange cmTellsSpec)

/-- ITS FALSE NEIGHBOUR: 'it returns false'. Refute it at one input. -/
def cmTellsWrong : ChangeSpec := { name := "cmTells", fn := fun _ => fun
  | [d1, d2, d3, d4, d5, d6] => { results := [.lit (.bool false)], args := [d1, d2, d3, d4, d5, d6] }
  | _ => none }
def CmTellsWrongFalsely : Prop := cmTellsRow.holds Try.pinned (OpenSpec.ofChange cmTellsWrong)

/-- 'gantletlaw09.CmRing': WHATEVER THE INPUT: true; the input reads as it did. -/
def cmRingSpec : ChangeSpec := { name := "cmRing", fn := fun _ => fun
  | [d] => { results := [.lit (.bool true)], args := [d] }
  | _ => none }
def cmRingRow : OpenClaim := { program := "ytaopipfdbbiiaaa", sum := "ee218905c54eaf24af0beb952bc09fb01a316fd0568c1623922b5147c5426c6f", func := "gantlet/gantletlaw09.CmRing", spec := "cmRing", apart := false }
def CmRingSaid : Prop := cmRingRow.holds Try.pinned (OpenSpec.ofChange cmRingSpec)

/-- ITS FALSE NEIGHBOUR: 'it returns false'. Refute it at one input. -/
def cmRingWrong : ChangeSpec := { name := "cmRing", fn := fun _ => fun
  | [d] => { results := [.lit (.bool false)], args := [d] }
  | _ => none }
def CmRingWrongFalsely : Prop := cmRingRow.holds Try.pinned (OpenSpec.ofChange cmRingWrong)

/-- 'gantletlaw09.CmEnds': WHATEVER THE INPUT: true; the input reads as it did. -/
def cmEndsSpec : ChangeSpec := { name := "cmEnds", fn := fun _ => fun
  | [d1, d2, d3, d4] => { results := [.lit (.bool true)], args := [d1, d2, d3, d4] }
  | _ => none }
def cmEndsRow : OpenClaim := { program := "ytaopipfdbbiiaaa", sum := "ee218905c54eaf24af0beb952bc09fb01a316fd0568c1623922b5147c5426c6f", func := "gantlet/gantletlaw09.CmEnds", spec := "cmEnds", apart := false }
def CmEndsSaid : Prop := cmEndsRow.holds Try.pinned (OpenSpec.ofChange cmEndsSpec)

/-- ITS FALSE NEIGHBOUR: 'it returns false'. Refute it at one input. -/
def cmEndsWrong : ChangeSpec := { name := "cmEnds", fn := fun _ => fun
  | [d1, d2, d3, d4] => { results := [.lit (.bool false)], args := [d1, d2, d3, d4] }
  | _ => none }
def CmEndsWrongFalsely : Prop := cmEndsRow.holds Try.pinned (OpenSpec.ofChange cmEndsWrong)

/-- 'gantletlaw09.CmOldest': WHATEVER THE INPUT: true; the input reads as it did. -/
def cmOldestSpec : ChangeSpec := { name := "cmOldest", fn := fun _ => fun
  | [d] => { results := [.lit (.bool true)], args := [d] }
  | _ => none }
def cmOldestRow : OpenClaim := { program := "ytaopipfdbbiiaaa", sum := "ee218905c54eaf24af0beb952bc09fb01a316fd0568c1623922b5147c5426c6f", func := "gantlet/gantletlaw09.CmOldest", spec := "cmOldest", apart := false }
def CmOldestSaid : Prop := cmOldestRow.holds Try.pinned (OpenSpec.ofChange cmOldestSpec)

/-- ITS FALSE NEIGHBOUR: 'it returns false'. Refute it at one input. -/
def cmOldestWrong : ChangeSpec := { name := "cmOldest", fn := fun _ => fun
  | [d] => { results := [.lit (.bool false)], args := [d] }
  | _ => none }
def CmOldestWrongFalsely : Prop := cmOldestRow.holds Try.pinned (OpenSpec.ofChange cmOldestWrong)

/- THE SECOND FORM. 'bulk': how many values and letters a reading holds, each counted each time it is reached (what is shared counts as often as it is met; a slice's spare places count too). A statement '..UptoSaid' is the law's where the arguments, and the package variables that the reading takes, are together of bulk at most 1048576: NARROWER than '..Said'. Prove '..Said' where nothing that the law and all that it calls make is longer than what came in: it says more and counts as full. Else prove '..UptoSaid'. A law counts once. -/
mutual
def uptoBulk {H : Type} : DataW H → Nat
  | .lit (.string bytes) => bytes.length + 1
  | .lit _ => 1
  | .nil => 1
  | .ptr d => uptoBulk d + 1
  | .slice elems spare => uptoBulkAll elems + uptoBulkAll spare + 1
  | .agg parts => uptoBulkAll parts + 1
  | .iface _ d => uptoBulk d + 1
  | .map entries => uptoBulkEntries entries + 1
  | .held _ => 1
def uptoBulkAll {H : Type} : List (DataW H) → Nat
  | [] => 0
  | d :: r => uptoBulk d + uptoBulkAll r
def uptoBulkEntries {H : Type} : List (Lit × DataW H) → Nat
  | [] => 0
  | x :: r => uptoBulkEntry x + uptoBulkEntries r
def uptoBulkEntry {H : Type} : Lit × DataW H → Nat
  | (.string bytes, d) => bytes.length + uptoBulk d + 1
  | (_, d) => uptoBulk d + 1
 end
def uptoSmall : (H : Type) → List (DataW H) → Bool := fun _ ds => decide (uptoBulkAll ds ≤ 1048576)
def OpenSpec.upto (s : _root_.Go.ChangeSpec) : _root_.Go.OpenSpec := { _root_.Go.OpenSpec.ofChange s with cond := some uptoSmall }

/-- 'gantletlaw09.CmTells', WHERE WHAT IT READS IS OF BULK AT MOST 1048576: true; the input reads as it did. -/
def cmTellsUptoRow : OpenClaim := { program := "ytaopipfdbbiiaaa", sum := "ee218905c54eaf24af0beb952bc09fb01a316fd0568c1623922b5147c5426c6f", func := "gantlet/gantletlaw09.CmTells", spec := "cmTells", apart := false, narrowed := true }
def CmTellsUptoSaid : Prop := cmTellsUptoRow.holds Try.pinned (OpenSpec.upto cmTellsSpec)

/-- 'gantletlaw09.CmRing', WHERE WHAT IT READS IS OF BULK AT MOST 1048576: true; the input reads as it did. -/
def cmRingUptoRow : OpenClaim := { program := "ytaopipfdbbiiaaa", sum := "ee218905c54eaf24af0beb952bc09fb01a316fd0568c1623922b5147c5426c6f", func := "gantlet/gantletlaw09.CmRing", spec := "cmRing", apart := false, narrowed := true }
def CmRingUptoSaid : Prop := cmRingUptoRow.holds Try.pinned (OpenSpec.upto cmRingSpec)

/-- 'gantletlaw09.CmEnds', WHERE WHAT IT READS IS OF BULK AT MOST 1048576: true; the input reads as it did. -/
def cmEndsUptoRow : OpenClaim := { program := "ytaopipfdbbiiaaa", sum := "ee218905c54eaf24af0beb952bc09fb01a316fd0568c1623922b5147c5426c6f", func := "gantlet/gantletlaw09.CmEnds", spec := "cmEnds", apart := false, narrowed := true }
def CmEndsUptoSaid : Prop := cmEndsUptoRow.holds Try.pinned (OpenSpec.upto cmEndsSpec)

/-- 'gantletlaw09.CmOldest', WHERE WHAT IT READS IS OF BULK AT MOST 1048576: true; the input reads as it did. -/
def cmOldestUptoRow : OpenClaim := { program := "ytaopipfdbbiiaaa", sum := "ee218905c54eaf24af0beb952bc09fb01a316fd0568c1623922b5147c5426c6f", func := "gantlet/gantletlaw09.CmOldest", spec := "cmOldest", apart := false, narrowed := true }
def CmOldestUptoSaid : Prop := cmOldestUptoRow.holds Try.pinned (OpenSpec.upto cmOldestSpec)

end Rows
end Go.Proofs.Ytaopipfdbbiiaaa
