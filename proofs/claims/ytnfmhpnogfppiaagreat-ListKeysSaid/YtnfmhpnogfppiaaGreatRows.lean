/-
  No cell of these rows narrows 'for every input' (looked for: loops, veiled, ifaces, maps, wideKeys, modest, calm, conditions, laid).
  DERIVED. THE GIVEN ROWS OF THIS SEAT. 2 by the template 'for every input the law returns true; each argument reads behind the call as it read before'; 0 by the template 'total and deterministic' (their statements: YtnfmhpnogfppiaaGreatTotals.lean).
  GIVEN WITH THE SEED: the statements are not yours to turn. If you find one false, say at which input.
  Laid BY PROGRAM, IN A SANDBOX (cutbox-rows.mjs): the forced cells as the released guide's own fill.sh prints them over the translation bc35a0218e5f00ce… (all of the seat's roots in one cut). By AI agents, Wed Nov 11 2026. No macro, syntax, notation, axiom, sorry.
-/
import Derived.Test.YtnfmhpnogfppiaaGreatChecked
import GoSem.Claim
import GoSem.ClaimJoined
import GoSem.ClaimMapViews
import Derived.JoinedTies
import Derived.KernelRfl
namespace Go.Proofs.YtnfmhpnogfppiaaGreat
/- THE CELL 'sum', in the pinned program and in every row, IS THE sha256 OF THE DUMP (.gsa) THAT YtnfmhpnogfppiaaGreatProg.lean LOADS. Nothing in Lean hashes anything: it is a label: what it is worth is what the hold of that sum in a sandbox is worth. -/
noncomputable def Tryz.pinned : Pinned := { name := "ytnfmhpnogfppiaagreat", sum := "bc35a0218e5f00ce7c8453654629891e0c12bd85fc4cefae84021dbdeea4b9ac", checked := Tryz.checked }
namespace Rows
def none {H : Type} : Left H := { results := [], args := [] }

/-- 'gantletlaw24.ListForms': WHATEVER THE INPUT: true; the input reads as it did. -/
def listFormsSpec : ChangeSpec := { name := "listForms", fn := fun _ => fun
  | [d1, d2, d3] => { results := [.lit (.bool true)], args := [d1, d2, d3] }
  | _ => none }
def listFormsRow : OpenClaim := { program := "ytnfmhpnogfppiaagreat", sum := "bc35a0218e5f00ce7c8453654629891e0c12bd85fc4cefae84021dbdeea4b9ac", func := "gantlet/gantletlaw24.ListForms", spec := "listForms", unfollowed := true, recurses := true, plainKeys := false, apart := false }
def ListFormsSaid : Prop := listFormsRow.holds Tryz.pinned (OpenSpec.ofChange listFormsSpec)

/-- ITS FALSE NEIGHBOUR: 'it returns false'. Refute it at one input. -/
def listFormsWrong : ChangeSpec := { name := "listForms", fn := fun _ => fun
  | [d1, d2, d3] => { results := [.lit (.bool false)], args := [d1, d2, d3] }
  | _ => none }
def ListFormsWrongFalsely : Prop := listFormsRow.holds Tryz.pinned (OpenSpec.ofChange listFormsWrong)

/-- 'gantletlaw24.ListKeys': WHATEVER THE INPUT: true; the input reads as it did. -/
def listKeysSpec : ChangeSpec := { name := "listKeys", fn := fun _ => fun
  | [d1, d2, d3] => { results := [.lit (.bool true)], args := [d1, d2, d3] }
  | _ => none }
def listKeysRow : OpenClaim := { program := "ytnfmhpnogfppiaagreat", sum := "bc35a0218e5f00ce7c8453654629891e0c12bd85fc4cefae84021dbdeea4b9ac", func := "gantlet/gantletlaw24.ListKeys", spec := "listKeys", unfollowed := true, recurses := true, plainKeys := false, apart := false }
def ListKeysSaid : Prop := listKeysRow.holds Tryz.pinned (OpenSpec.ofChange listKeysSpec)

/-- ITS FALSE NEIGHBOUR: 'it returns false'. Refute it at one input. -/
def listKeysWrong : ChangeSpec := { name := "listKeys", fn := fun _ => fun
  | [d1, d2, d3] => { results := [.lit (.bool false)], args := [d1, d2, d3] }
  | _ => none }
def ListKeysWrongFalsely : Prop := listKeysRow.holds Tryz.pinned (OpenSpec.ofChange listKeysWrong)

/- THE SECOND FORM. 'bulk': how many values and letters a reading holds, each counted each time it is reached (what is shared counts as often as it is met; a slice's spare places count too). A statement '..UptoSaid' is the law's where the arguments, and the package variables that the reading takes, are together of bulk at most 1048576: NARROWER than '..Said'. Prove '..Said' where nothing that the law and all that it calls make is longer than what came in: it says more and counts as full. Else prove '..UptoSaid'. A law counts once. -/
mutual
def uptoBulk {H : Type} : DataW H → Nat
  | .lit (.string bytes) => bytes.length + 1
  | .lit _ => 1
  | .nil => 1
  | .ptr d => uptoBulk d + 1
  | .slice elems spare => uptoBulkAll elems + uptoBulkAll spare + 1
  | .agg parts => uptoBulkAll parts + 1
  | .iface _ d => uptoBulk d + 1
  | .map entries => uptoBulkEntries entries + 1
  | .held _ => 1
def uptoBulkAll {H : Type} : List (DataW H) → Nat
  | [] => 0
  | d :: r => uptoBulk d + uptoBulkAll r
def uptoBulkEntries {H : Type} : List (Lit × DataW H) → Nat
  | [] => 0
  | x :: r => uptoBulkEntry x + uptoBulkEntries r
def uptoBulkEntry {H : Type} : Lit × DataW H → Nat
  | (.string bytes, d) => bytes.length + uptoBulk d + 1
  | (_, d) => uptoBulk d + 1
 end
def uptoSmall : (H : Type) → List (DataW H) → Bool := fun _ ds => decide (uptoBulkAll ds ≤ 1048576)
def OpenSpec.upto (s : _root_.Go.ChangeSpec) : _root_.Go.OpenSpec := { _root_.Go.OpenSpec.ofChange s with cond := some uptoSmall }

/-- 'gantletlaw24.ListForms', WHERE WHAT IT READS IS OF BULK AT MOST 1048576: true; the input reads as it did. -/
def listFormsUptoRow : OpenClaim := { program := "ytnfmhpnogfppiaagreat", sum := "bc35a0218e5f00ce7c8453654629891e0c12bd85fc4cefae84021dbdeea4b9ac", func := "gantlet/gantletlaw24.ListForms", spec := "listForms", unfollowed := true, recurses := true, plainKeys := false, apart := false, narrowed := true }
def ListFormsUptoSaid : Prop := listFormsUptoRow.holds Tryz.pinned (OpenSpec.upto listFormsSpec)

/-- 'gantletlaw24.ListKeys', WHERE WHAT IT READS IS OF BULK AT MOST 1048576: true; the input reads as it did. -/
def listKeysUptoRow : OpenClaim := { program := "ytnfmhpnogfppiaagreat", sum := "bc35a0218e5f00ce7c8453654629891e0c12bd85fc4cefae84021dbdeea4b9ac", func := "gantlet/gantletlaw24.ListKeys", spec := "listKeys", unfollowed := true, recurses := true, plainKeys := false, apart := false, narrowed := true }
def ListKeysUptoSaid : Prop := listKeysUptoRow.holds Tryz.pinned (OpenSpec.upto listKeysSpec)

end Rows
end Go.Proofs.YtnfmhpnogfppiaaGreat
