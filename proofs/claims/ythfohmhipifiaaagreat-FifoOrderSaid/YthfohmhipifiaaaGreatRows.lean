/-
  No cell of these rows narrows 'for every input' (looked for: loops, veiled, ifaces, maps, wideKeys, modest, calm, conditions, laid).
  DERIVED. THE GIVEN ROWS OF THIS SEAT. 4 by the template 'for every input the law returns true; each argument reads behind the call as it read before'; 0 by the template 'total and deterministic' (their statements: YthfohmhipifiaaaGreatTotals.lean).
  GIVEN WITH THE SEED: the statements are not yours to turn. If you find one false, say at which input.
  Laid BY PROGRAM, IN A SANDBOX (cutbox-rows.mjs): the forced cells as the released guide's own fill.sh prints them over the translation 725632ad43d0917b… (all of the seat's roots in one cut). By AI agents, Wed Nov 11 2026. No macro, syntax, notation, axiom, sorry.
-/
import Derived.Test.YthfohmhipifiaaaGreatChecked
import GoSem.Claim
import GoSem.ClaimJoined
import GoSem.ClaimMapViews
import Derived.JoinedTies
import Derived.KernelRfl
namespace Go.Proofs.YthfohmhipifiaaaGreat
/- THE CELL 'sum', in the pinned program and in every row, IS THE sha256 OF THE DUMP (.gsa) THAT YthfohmhipifiaaaGreatProg.lean LOADS. Nothing in Lean hashes anything: it is a label: what it is worth is what the hold of that sum in a sandbox is worth. -/
noncomputable def Tryz.pinned : Pinned := { name := "ythfohmhipifiaaagreat", sum := "725632ad43d0917bdb0580243f22979cbb6bf2daebfca8979b605c4214477745", checked := Tryz.checked }
namespace Rows
def none {H : Type} : Left H := { results := [], args := [] }

/-- 'gantletlaw32.FifoRoom': WHATEVER THE INPUT: true; the input reads as it did. -/
def fifoRoomSpec : ChangeSpec := { name := "fifoRoom", fn := fun _ => fun
  | [d1, d2, d3] => { results := [.lit (.bool true)], args := [d1, d2, d3] }
  | _ => none }
def fifoRoomRow : OpenClaim := { program := "ythfohmhipifiaaagreat", sum := "725632ad43d0917bdb0580243f22979cbb6bf2daebfca8979b605c4214477745", func := "gantlet/gantletlaw32.FifoRoom", spec := "fifoRoom", unfollowed := true, recurses := true, plainKeys := false, apart := false }
def FifoRoomSaid : Prop := fifoRoomRow.holds Tryz.pinned (OpenSpec.ofChange fifoRoomSpec)

/-- ITS FALSE NEIGHBOUR: 'it returns false'. Refute it at one input. -/
def fifoRoomWrong : ChangeSpec := { name := "fifoRoom", fn := fun _ => fun
  | [d1, d2, d3] => { results := [.lit (.bool false)], args := [d1, d2, d3] }
  | _ => none }
def FifoRoomWrongFalsely : Prop := fifoRoomRow.holds Tryz.pinned (OpenSpec.ofChange fifoRoomWrong)

/-- 'gantletlaw32.FifoOrder': WHATEVER THE INPUT: true; the input reads as it did. -/
def fifoOrderSpec : ChangeSpec := { name := "fifoOrder", fn := fun _ => fun
  | [d1, d2] => { results := [.lit (.bool true)], args := [d1, d2] }
  | _ => none }
def fifoOrderRow : OpenClaim := { program := "ythfohmhipifiaaagreat", sum := "725632ad43d0917bdb0580243f22979cbb6bf2daebfca8979b605c4214477745", func := "gantlet/gantletlaw32.FifoOrder", spec := "fifoOrder", unfollowed := true, recurses := true, plainKeys := false, apart := false }
def FifoOrderSaid : Prop := fifoOrderRow.holds Tryz.pinned (OpenSpec.ofChange fifoOrderSpec)

/-- ITS FALSE NEIGHBOUR: 'it returns false'. Refute it at one input. -/
def fifoOrderWrong : ChangeSpec := { name := "fifoOrder", fn := fun _ => fun
  | [d1, d2] => { results := [.lit (.bool false)], args := [d1, d2] }
  | _ => none }
def FifoOrderWrongFalsely : Prop := fifoOrderRow.holds Tryz.pinned (OpenSpec.ofChange fifoOrderWrong)

/-- 'gantletlaw24.ListSets': WHATEVER THE INPUT: true; the input reads as it did. -/
def listSetsSpec : ChangeSpec := { name := "listSets", fn := fun _ => fun
  | [d1, d2, d3, d4] => { results := [.lit (.bool true)], args := [d1, d2, d3, d4] }
  | _ => none }
def listSetsRow : OpenClaim := { program := "ythfohmhipifiaaagreat", sum := "725632ad43d0917bdb0580243f22979cbb6bf2daebfca8979b605c4214477745", func := "gantlet/gantletlaw24.ListSets", spec := "listSets", unfollowed := true, recurses := true, plainKeys := false, apart := false }
def ListSetsSaid : Prop := listSetsRow.holds Tryz.pinned (OpenSpec.ofChange listSetsSpec)

/-- ITS FALSE NEIGHBOUR: 'it returns false'. Refute it at one input. -/
def listSetsWrong : ChangeSpec := { name := "listSets", fn := fun _ => fun
  | [d1, d2, d3, d4] => { results := [.lit (.bool false)], args := [d1, d2, d3, d4] }
  | _ => none }
def ListSetsWrongFalsely : Prop := listSetsRow.holds Tryz.pinned (OpenSpec.ofChange listSetsWrong)

/-- 'gantletlaw24.ListOwn': WHATEVER THE INPUT: true; the input reads as it did. -/
def listOwnSpec : ChangeSpec := { name := "listOwn", fn := fun _ => fun
  | [d1, d2, d3] => { results := [.lit (.bool true)], args := [d1, d2, d3] }
  | _ => none }
def listOwnRow : OpenClaim := { program := "ythfohmhipifiaaagreat", sum := "725632ad43d0917bdb0580243f22979cbb6bf2daebfca8979b605c4214477745", func := "gantlet/gantletlaw24.ListOwn", spec := "listOwn", unfollowed := true, recurses := true, plainKeys := false, apart := false }
def ListOwnSaid : Prop := listOwnRow.holds Tryz.pinned (OpenSpec.ofChange listOwnSpec)

/-- ITS FALSE NEIGHBOUR: 'it returns false'. Refute it at one input. -/
def listOwnWrong : ChangeSpec := { name := "listOwn", fn := fun _ => fun
  | [d1, d2, d3] => { results := [.lit (.bool false)], args := [d1, d2, d3] }
  | _ => none }
def ListOwnWrongFalsely : Prop := listOwnRow.holds Tryz.pinned (OpenSpec.ofChange listOwnWrong)

/- THE SECOND FORM. 'bulk': how many values and letters a reading holds, each counted each time it is reached (what is shared counts as often as it is met; a slice's spare places count too). A statement '..UptoSaid' is the law's where the arguments, and the package variables that the reading takes, are together of bulk at most 1048576: NARROWER than '..Said'. Prove '..Said' where nothing that the law and all that it calls make is longer than what came in: it says more and counts as full. Else prove '..UptoSaid'. A law counts once. -/
mutual
def uptoBulk {H : Type} : DataW H → Nat
  | .lit (.string bytes) => bytes.length + 1
  | .lit _ => 1
  | .nil => 1
  | .ptr d => uptoBulk d + 1
  | .slice elems spare => uptoBulkAll elems + uptoBulkAll spare + 1
  | .agg parts => uptoBulkAll parts + 1
  | .iface _ d => uptoBulk d + 1
  | .map entries => uptoBulkEntries entries + 1
  | .held _ => 1
def uptoBulkAll {H : Type} : List (DataW H) → Nat
  | [] => 0
  | d :: r => uptoBulk d + uptoBulkAll r
def uptoBulkEntries {H : Type} : List (Lit × DataW H) → Nat
  | [] => 0
  | x :: r => uptoBulkEntry x + uptoBulkEntries r
def uptoBulkEntry {H : Type} : Lit × DataW H → Nat
  | (.string bytes, d) => bytes.length + uptoBulk d + 1
  | (_, d) => uptoBulk d + 1
 end
def uptoSmall : (H : Type) → List (DataW H) → Bool := fun _ ds => decide (uptoBulkAll ds ≤ 1048576)
def OpenSpec.upto (s : _root_.Go.ChangeSpec) : _root_.Go.OpenSpec := { _root_.Go.OpenSpec.ofChange s with cond := some uptoSmall }

/-- 'gantletlaw32.FifoRoom', WHERE WHAT IT READS IS OF BULK AT MOST 1048576: true; the input reads as it did. -/
def fifoRoomUptoRow : OpenClaim := { program := "ythfohmhipifiaaagreat", sum := "725632ad43d0917bdb0580243f22979cbb6bf2daebfca8979b605c4214477745", func := "gantlet/gantletlaw32.FifoRoom", spec := "fifoRoom", unfollowed := true, recurses := true, plainKeys := false, apart := false, narrowed := true }
def FifoRoomUptoSaid : Prop := fifoRoomUptoRow.holds Tryz.pinned (OpenSpec.upto fifoRoomSpec)

/-- 'gantletlaw32.FifoOrder', WHERE WHAT IT READS IS OF BULK AT MOST 1048576: true; the input reads as it did. -/
def fifoOrderUptoRow : OpenClaim := { program := "ythfohmhipifiaaagreat", sum := "725632ad43d0917bdb0580243f22979cbb6bf2daebfca8979b605c4214477745", func := "gantlet/gantletlaw32.FifoOrder", spec := "fifoOrder", unfollowed := true, recurses := true, plainKeys := false, apart := false, narrowed := true }
def FifoOrderUptoSaid : Prop := fifoOrderUptoRow.holds Tryz.pinned (OpenSpec.upto fifoOrderSpec)

/-- 'gantletlaw24.ListSets', WHERE WHAT IT READS IS OF BULK AT MOST 1048576: true; the input reads as it did. -/
def listSetsUptoRow : OpenClaim := { program := "ythfohmhipifiaaagreat", sum := "725632ad43d0917bdb0580243f22979cbb6bf2daebfca8979b605c4214477745", func := "gantlet/gantletlaw24.ListSets", spec := "listSets", unfollowed := true, recurses := true, plainKeys := false, apart := false, narrowed := true }
def ListSetsUptoSaid : Prop := listSetsUptoRow.holds Tryz.pinned (OpenSpec.upto listSetsSpec)

/-- 'gantletlaw24.ListOwn', WHERE WHAT IT READS IS OF BULK AT MOST 1048576: true; the input reads as it did. -/
def listOwnUptoRow : OpenClaim := { program := "ythfohmhipifiaaagreat", sum := "725632ad43d0917bdb0580243f22979cbb6bf2daebfca8979b605c4214477745", func := "gantlet/gantletlaw24.ListOwn", spec := "listOwn", unfollowed := true, recurses := true, plainKeys := false, apart := false, narrowed := true }
def ListOwnUptoSaid : Prop := listOwnUptoRow.holds Tryz.pinned (OpenSpec.upto listOwnSpec)

end Rows
end Go.Proofs.YthfohmhipifiaaaGreat
