/-
  No cell of these rows narrows 'for every input' (looked for: loops, veiled, ifaces, maps, wideKeys, modest, calm, conditions, laid).
  DERIVED. THE GIVEN ROWS OF THIS SEAT. 2 by the template 'for every input the law returns true; each argument reads behind the call as it read before'; 0 by the template 'total and deterministic' (their statements: YtpfmkkookmofcaaGreatTotals.lean).
  GIVEN WITH THE SEED: the statements are not yours to turn. If you find one false, say at which input.
  Laid BY PROGRAM, IN A SANDBOX (cutbox-rows.mjs): the forced cells as the released guide's own fill.sh prints them over the translation 686e7dafc709e2fe… (all of the seat's roots in one cut). By AI agents, Wed Nov 11 2026. No macro, syntax, notation, axiom, sorry.
-/
import Derived.Test.YtpfmkkookmofcaaGreatChecked
import GoSem.Claim
import GoSem.ClaimJoined
import GoSem.ClaimMapViews
import Derived.JoinedTies
import Derived.KernelRfl
namespace Go.Proofs.YtpfmkkookmofcaaGreat
/- THE CELL 'sum', in the pinned program and in every row, IS THE sha256 OF THE DUMP (.gsa) THAT YtpfmkkookmofcaaGreatProg.lean LOADS. Nothing in Lean hashes anything: it is a label: what it is worth is what the hold of that sum in a sandbox is worth. -/
noncomputable def Tryz.pinned : Pinned := { name := "ytpfmkkookmofcaagreat", sum := "686e7dafc709e2fea8197e5cee1c42a3682408396a9600594cbc8448420be8d7", checked := Tryz.checked }
namespace Rows
def none {H : Type} : Left H := { results := [], args := [] }

/-- 'gantletlaw32.FifoForms': WHATEVER THE INPUT: true; the input reads as it did. -/
def fifoFormsSpec : ChangeSpec := { name := "fifoForms", fn := fun _ => fun
  | [d1, d2, d3, d4, d5] => { results := [.lit (.bool true)], args := [d1, d2, d3, d4, d5] }
  | _ => none }
def fifoFormsRow : OpenClaim := { program := "ytpfmkkookmofcaagreat", sum := "686e7dafc709e2fea8197e5cee1c42a3682408396a9600594cbc8448420be8d7", func := "gantlet/gantletlaw32.FifoForms", spec := "fifoForms", unfollowed := true, recurses := true, plainKeys := false, apart := false }
def FifoFormsSaid : Prop := fifoFormsRow.holds Tryz.pinned (OpenSpec.ofChange fifoFormsSpec)

/-- ITS FALSE NEIGHBOUR: 'it returns false'. Refute it at one input. -/
def fifoFormsWrong : ChangeSpec := { name := "fifoForms", fn := fun _ => fun
  | [d1, d2, d3, d4, d5] => { results := [.lit (.bool false)], args := [d1, d2, d3, d4, d5] }
  | _ => none }
def FifoFormsWrongFalsely : Prop := fifoFormsRow.holds Tryz.pinned (OpenSpec.ofChange fifoFormsWrong)

/-- 'gantletlaw32.FifoItems': WHATEVER THE INPUT: true; the input reads as it did. -/
def fifoItemsSpec : ChangeSpec := { name := "fifoItems", fn := fun _ => fun
  | [d1, d2, d3] => { results := [.lit (.bool true)], args := [d1, d2, d3] }
  | _ => none }
def fifoItemsRow : OpenClaim := { program := "ytpfmkkookmofcaagreat", sum := "686e7dafc709e2fea8197e5cee1c42a3682408396a9600594cbc8448420be8d7", func := "gantlet/gantletlaw32.FifoItems", spec := "fifoItems", unfollowed := true, recurses := true, plainKeys := false, apart := false }
def FifoItemsSaid : Prop := fifoItemsRow.holds Tryz.pinned (OpenSpec.ofChange fifoItemsSpec)

/-- ITS FALSE NEIGHBOUR: 'it returns false'. Refute it at one input. -/
def fifoItemsWrong : ChangeSpec := { name := "fifoItems", fn := fun _ => fun
  | [d1, d2, d3] => { results := [.lit (.bool false)], args := [d1, d2, d3] }
  | _ => none }
def FifoItemsWrongFalsely : Prop := fifoItemsRow.holds Tryz.pinned (OpenSpec.ofChange fifoItemsWrong)

/- THE SECOND FORM. 'bulk': how many values and letters a reading holds, each counted each time it is reached (what is shared counts as often as it is met; a slice's spare places count too). A statement '..UptoSaid' is the law's where the arguments, and the package variables that the reading takes, are together of bulk at most 1048576: NARROWER than '..Said'. Prove '..Said' where nothing that the law and all that it calls make is longer than what came in: it says more and counts as full. Else prove '..UptoSaid'. A law counts once. -/
mutual
def uptoBulk {H : Type} : DataW H → Nat
  | .lit (.string bytes) => bytes.length + 1
  | .lit _ => 1
  | .nil => 1
  | .ptr d => uptoBulk d + 1
  | .slice elems spare => uptoBulkAll elems + uptoBulkAll spare + 1
  | .agg parts => uptoBulkAll parts + 1
  | .iface _ d => uptoBulk d + 1
  | .map entries => uptoBulkEntries entries + 1
  | .held _ => 1
def uptoBulkAll {H : Type} : List (DataW H) → Nat
  | [] => 0
  | d :: r => uptoBulk d + uptoBulkAll r
def uptoBulkEntries {H : Type} : List (Lit × DataW H) → Nat
  | [] => 0
  | x :: r => uptoBulkEntry x + uptoBulkEntries r
def uptoBulkEntry {H : Type} : Lit × DataW H → Nat
  | (.string bytes, d) => bytes.length + uptoBulk d + 1
  | (_, d) => uptoBulk d + 1
 end
def uptoSmall : (H : Type) → List (DataW H) → Bool := fun _ ds => decide (uptoBulkAll ds ≤ 1048576)
def OpenSpec.upto (s : _root_.Go.ChangeSpec) : _root_.Go.OpenSpec := { _root_.Go.OpenSpec.ofChange s with cond := some uptoSmall }

/-- 'gantletlaw32.FifoForms', WHERE WHAT IT READS IS OF BULK AT MOST 1048576: true; the input reads as it did. -/
def fifoFormsUptoRow : OpenClaim := { program := "ytpfmkkookmofcaagreat", sum := "686e7dafc709e2fea8197e5cee1c42a3682408396a9600594cbc8448420be8d7", func := "gantlet/gantletlaw32.FifoForms", spec := "fifoForms", unfollowed := true, recurses := true, plainKeys := false, apart := false, narrowed := true }
def FifoFormsUptoSaid : Prop := fifoFormsUptoRow.holds Tryz.pinned (OpenSpec.upto fifoFormsSpec)

/-- 'gantletlaw32.FifoItems', WHERE WHAT IT READS IS OF BULK AT MOST 1048576: true; the input reads as it did. -/
def fifoItemsUptoRow : OpenClaim := { program := "ytpfmkkookmofcaagreat", sum := "686e7dafc709e2fea8197e5cee1c42a3682408396a9600594cbc8448420be8d7", func := "gantlet/gantletlaw32.FifoItems", spec := "fifoItems", unfollowed := true, recurses := true, plainKeys := false, apart := false, narrowed := true }
def FifoItemsUptoSaid : Prop := fifoItemsUptoRow.holds Tryz.pinned (OpenSpec.upto fifoItemsSpec)

end Rows
end Go.Proofs.YtpfmkkookmofcaaGreat
