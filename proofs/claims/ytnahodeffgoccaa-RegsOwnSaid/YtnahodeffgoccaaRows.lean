/-
  No cell of these rows narrows 'for every input' (looked for: loops, veiled, ifaces, maps, wideKeys, modest, calm, conditions, laid).
  DERIVED. THE GIVEN ROWS OF THIS SEAT. 4 by the template 'for every input the law returns true; each argument reads behind the call as it read before'; 0 by the template 'total and deterministic' (their statements: YtnahodeffgoccaaTotals.lean).
  GIVEN WITH THE SEED: the statements are not yours to turn. If you find one false, say at which input.
  Laid BY PROGRAM, IN A SANDBOX (cutbox-rows.mjs): the forced cells as the released guide's own fill.sh prints them over the translation 8a99584548b5855c… (all of the seat's roots in one cut). By AI agents, Wed Nov 11 2026. No macro, syntax, notation, axiom, sorry.
-/
import Derived.Test.YtnahodeffgoccaaChecked
import GoSem.Claim
import GoSem.ClaimJoined
import GoSem.ClaimMapViews
import Derived.JoinedTies
import Derived.KernelRfl
namespace Go.Proofs.Ytnahodeffgoccaa
/- THE CELL 'sum', in the pinned program and in every row, IS THE sha256 OF THE DUMP (.gsa) THAT YtnahodeffgoccaaProg.lean LOADS. Nothing in Lean hashes anything: it is a label: what it is worth is what the hold of that sum in a sandbox is worth. -/
noncomputable def Try.pinned : Pinned := { name := "ytnahodeffgoccaa", sum := "8a99584548b5855c0da32ea1218e823abb0975ee0e054726d666c3fa3e9f07f7", checked := Try.checked }
namespace Rows
def none {H : Type} : Left H := { results := [], args := [] }

/-- 'gantletlaw14.RegsDo': WHATEVER THE INPUT: true; the input reads as it did. -/
def regsDoSpec : ChangeSpec := { name := "regsDo", fn := fun _ => fun
  | [d1, d2, d3, d4] => { results := [.lit (.bool true)], args := [d1, d2, d3, d4] }
  | _ => none }
def regsDoRow : OpenClaim := { program := "ytnahodeffgoccaa", sum := "8a99584548b5855c0da32ea1218e823abb0975ee0e054726d666c3fa3e9f07f7", func := "gantlet/gantletlaw14.RegsDo", spec := "regsDo", apart := false }
def RegsDoSaid : Prop := regsDoRow.holds Try.pinned (OpenSpec.ofChange regsDoSpec)

/-- ITS FALSE NEIGHBOUR: 'it returns false'. Refute it at one input. -/
def regsDoWrong : ChangeSpec := { name := "regsDo", fn := fun _ => fun
  | [d1, d2, d3, d4] => { results := [.lit (.bool false)], args := [d1, d2, d3, d4] }
  | _ => none }
def RegsDoWrongFalsely : Prop := regsDoRow.holds Try.pinned (OpenSpec.ofChange regsDoWrong)

/-- 'gantletlaw14.RegsTold': WHATEVER THE INPUT: true; the input reads as it did. -/
def regsToldSpec : ChangeSpec := { name := "regsTold", fn := fun _ => fun
  | [d1, d2, d3, d4] => { results := [.lit (.bool true)], args := [d1, d2, d3, d4] }
  | _ => none }
def regsToldRow : OpenClaim := { program := "ytnahodeffgoccaa", sum := "8a99584548b5855c0da32ea1218e823abb0975ee0e054726d666c3fa3e9f07f7", func := "gantlet/gantletlaw14.RegsTold", spec := "regsTold", apart := false }
def RegsToldSaid : Prop := regsToldRow.holds Try.pinned (OpenSpec.ofChange regsToldSpec)

/-- ITS FALSE NEIGHBOUR: 'it returns false'. Refute it at one input. -/
def regsToldWrong : ChangeSpec := { name := "regsTold", fn := fun _ => fun
  | [d1, d2, d3, d4] => { results := [.lit (.bool false)], args := [d1, d2, d3, d4] }
  | _ => none }
def RegsToldWrongFalsely : Prop := regsToldRow.holds Try.pinned (OpenSpec.ofChange regsToldWrong)

/-- 'gantletlaw14.RegsOwn': WHATEVER THE INPUT: true; the input reads as it did. -/
def regsOwnSpec : ChangeSpec := { name := "regsOwn", fn := fun _ => fun
  | [d1, d2, d3, d4, d5] => { results := [.lit (.bool true)], args := [d1, d2, d3, d4, d5] }
  | _ => none }
def regsOwnRow : OpenClaim := { program := "ytnahodeffgoccaa", sum := "8a99584548b5855c0da32ea1218e823abb0975ee0e054726d666c3fa3e9f07f7", func := "gantlet/gantletlaw14.RegsOwn", spec := "regsOwn", apart := false }
def RegsOwnSaid : Prop := regsOwnRow.holds Try.pinned (OpenSpec.ofChange regsOwnSpec)

/-- ITS FALSE NEIGHBOUR: 'it returns false'. Refute it at one input. -/
def regsOwnWrong : ChangeSpec := { name := "regsOwn", fn := fun _ => fun
  | [d1, d2, d3, d4, d5] => { results := [.lit (.bool false)], args := [d1, d2, d3, d4, d5] }
  | _ => none }
def RegsOwnWrongFalsely : Prop := regsOwnRow.holds Try.pinned (OpenSpec.ofChange regsOwnWrong)

/-- 'gantletlaw14.RegsRuns': WHATEVER THE INPUT: true; the input reads as it did. -/
def regsRunsSpec : ChangeSpec := { name := "regsRuns", fn := fun _ => fun
  | [d1, d2] => { results := [.lit (.bool true)], args := [d1, d2] }
  | _ => none }
def regsRunsRow : OpenClaim := { program := "ytnahodeffgoccaa", sum := "8a99584548b5855c0da32ea1218e823abb0975ee0e054726d666c3fa3e9f07f7", func := "gantlet/gantletlaw14.RegsRuns", spec := "regsRuns", apart := false }
def RegsRunsSaid : Prop := regsRunsRow.holds Try.pinned (OpenSpec.ofChange regsRunsSpec)

/-- ITS FALSE NEIGHBOUR: 'it returns false'. Refute it at one input. -/
def regsRunsWrong : ChangeSpec := { name := "regsRuns", fn := fun _ => fun
  | [d1, d2] => { results := [.lit (.bool false)], args := [d1, d2] }
  | _ => none }
def RegsRunsWrongFalsely : Prop := regsRunsRow.holds Try.pinned (OpenSpec.ofChange regsRunsWrong)

/- THE SECOND FORM. 'bulk': how many values and letters a reading holds, each counted each time it is reached (what is shared counts as often as it is met; a slice's spare places count too). A statement '..UptoSaid' is the law's where the arguments, and the package variables that the reading takes, are together of bulk at most 1048576: NARROWER than '..Said'. Prove '..Said' where nothing that the law and all that it calls make is longer than what came in: it says more and counts as full. Else prove '..UptoSaid'. A law counts once. -/
mutual
def uptoBulk {H : Type} : DataW H → Nat
  | .lit (.string bytes) => bytes.length + 1
  | .lit _ => 1
  | .nil => 1
  | .ptr d => uptoBulk d + 1
  | .slice elems spare => uptoBulkAll elems + uptoBulkAll spare + 1
  | .agg parts => uptoBulkAll parts + 1
  | .iface _ d => uptoBulk d + 1
  | .map entries => uptoBulkEntries entries + 1
  | .held _ => 1
def uptoBulkAll {H : Type} : List (DataW H) → Nat
  | [] => 0
  | d :: r => uptoBulk d + uptoBulkAll r
def uptoBulkEntries {H : Type} : List (Lit × DataW H) → Nat
  | [] => 0
  | x :: r => uptoBulkEntry x + uptoBulkEntries r
def uptoBulkEntry {H : Type} : Lit × DataW H → Nat
  | (.string bytes, d) => bytes.length + uptoBulk d + 1
  | (_, d) => uptoBulk d + 1
 end
def uptoSmall : (H : Type) → List (DataW H) → Bool := fun _ ds => decide (uptoBulkAll ds ≤ 1048576)
def OpenSpec.upto (s : _root_.Go.ChangeSpec) : _root_.Go.OpenSpec := { _root_.Go.OpenSpec.ofChange s with cond := some uptoSmall }

/-- 'gantletlaw14.RegsDo', WHERE WHAT IT READS IS OF BULK AT MOST 1048576: true; the input reads as it did. -/
def regsDoUptoRow : OpenClaim := { program := "ytnahodeffgoccaa", sum := "8a99584548b5855c0da32ea1218e823abb0975ee0e054726d666c3fa3e9f07f7", func := "gantlet/gantletlaw14.RegsDo", spec := "regsDo", apart := false, narrowed := true }
def RegsDoUptoSaid : Prop := regsDoUptoRow.holds Try.pinned (OpenSpec.upto regsDoSpec)

/-- 'gantletlaw14.RegsTold', WHERE WHAT IT READS IS OF BULK AT MOST 1048576: true; the input reads as it did. -/
def regsToldUptoRow : OpenClaim := { program := "ytnahodeffgoccaa", sum := "8a99584548b5855c0da32ea1218e823abb0975ee0e054726d666c3fa3e9f07f7", func := "gantlet/gantletlaw14.RegsTold", spec := "regsTold", apart := false, narrowed := true }
def RegsToldUptoSaid : Prop := regsToldUptoRow.holds Try.pinned (OpenSpec.upto regsToldSpec)

/-- 'gantletlaw14.RegsOwn', WHERE WHAT IT READS IS OF BULK AT MOST 1048576: true; the input reads as it did. -/
def regsOwnUptoRow : OpenClaim := { program := "ytnahodeffgoccaa", sum := "8a99584548b5855c0da32ea1218e823abb0975ee0e054726d666c3fa3e9f07f7", func := "gantlet/gantletlaw14.RegsOwn", spec := "regsOwn", apart := false, narrowed := true }
def RegsOwnUptoSaid : Prop := regsOwnUptoRow.holds Try.pinned (OpenSpec.upto regsOwnSpec)

/-- 'gantletlaw14.RegsRuns', WHERE WHAT IT READS IS OF BULK AT MOST 1048576: true; the input reads as it did. -/
def regsRunsUptoRow : OpenClaim := { program := "ytnahodeffgoccaa", sum := "8a99584548b5855c0da32ea1218e823abb0975ee0e054726d666c3fa3e9f07f7", func := "gantlet/gantletlaw14.RegsRuns", spec := "regsRuns", apart := false, narrowed := true }
def RegsRunsUptoSaid : Prop := regsRunsUptoRow.holds Try.pinned (OpenSpec.upto regsRunsSpec)

end Rows
end Go.Proofs.Ytnahodeffgoccaa
