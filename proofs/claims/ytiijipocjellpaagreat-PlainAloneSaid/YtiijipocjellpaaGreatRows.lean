/-
  No cell of these rows narrows 'for every input' (looked for: loops, veiled, ifaces, maps, wideKeys, modest, calm, conditions, laid).
  DERIVED. THE GIVEN ROWS OF THIS SEAT. 4 by the template 'for every input the law returns true; each argument reads behind the call as it read before'; 0 by the template 'total and deterministic' (their statements: YtiijipocjellpaaGreatTotals.lean).
  GIVEN WITH THE SEED: the statements are not yours to turn. If you find one false, say at which input.
  Laid BY PROGRAM, IN A SANDBOX (cutbox-rows.mjs): the forced cells as the released guide's own fill.sh prints them over the translation 09ee050d7a277e4e… (all of the seat's roots in one cut). By AI agents, Wed Nov 11 2026. No macro, syntax, notation, axiom, sorry.
-/
import Derived.Test.YtiijipocjellpaaGreatChecked
import GoSem.Claim
import GoSem.ClaimJoined
import GoSem.ClaimMapViews
import Derived.JoinedTies
import Derived.KernelRfl
namespace Go.Proofs.YtiijipocjellpaaGreat
/- THE CELL 'sum', in the pinned program and in every row, IS THE sha256 OF THE DUMP (.gsa) THAT YtiijipocjellpaaGreatProg.lean LOADS. Nothing in Lean hashes anything: it is a label: what it is worth is what the hold of that sum in a sandbox is worth. -/
noncomputable def Tryz.pinned : Pinned := { name := "ytiijipocjellpaagreat", sum := "09ee050d7a277e4e64de95be2b04d26b955ca5f07bdd2a1f5d917851e327b29f", checked := Tryz.checked }
namespace Rows
def none {H : Type} : Left H := { results := [], args := [] }

/-- 'gantletlaw18.PlainShares': WHATEVER THE INPUT: true; the input reads as it did. -/
def plainSharesSpec : ChangeSpec := { name := "plainShares", fn := fun _ => fun
  | [d1, d2] => { results := [.lit (.bool true)], args := [d1, d2] }
  | _ => none }
def plainSharesRow : OpenClaim := { program := "ytiijipocjellpaagreat", sum := "09ee050d7a277e4e64de95be2b04d26b955ca5f07bdd2a1f5d917851e327b29f", func := "gantlet/gantletlaw18.PlainShares", spec := "plainShares", inPlace := ["sync/atomic.LoadInt64", "sync/atomic.CompareAndSwapInt64", "sync/atomic.AddInt64", "sync/atomic.StoreInt64"], unfollowed := true, recurses := true, plainKeys := false, apart := false }
def PlainSharesSaid : Prop := plainSharesRow.holds Tryz.pinned (OpenSpec.ofChange plainSharesSpec)

/-- ITS FALSE NEIGHBOUR: 'it returns false'. Refute it at one input. -/
def plainSharesWrong : ChangeSpec := { name := "plainShares", fn := fun _ => fun
  | [d1, d2] => { results := [.lit (.bool false)], args := [d1, d2] }
  | _ => none }
def PlainSharesWrongFalsely : Prop := plainSharesRow.holds Tryz.pinned (OpenSpec.ofChange plainSharesWrong)

/-- 'gantletlaw18.PlainAlone': WHATEVER THE INPUT: true; the input reads as it did. -/
def plainAloneSpec : ChangeSpec := { name := "plainAlone", fn := fun _ => fun
  | [d] => { results := [.lit (.bool true)], args := [d] }
  | _ => none }
def plainAloneRow : OpenClaim := { program := "ytiijipocjellpaagreat", sum := "09ee050d7a277e4e64de95be2b04d26b955ca5f07bdd2a1f5d917851e327b29f", func := "gantlet/gantletlaw18.PlainAlone", spec := "plainAlone", inPlace := ["sync/atomic.LoadInt64", "sync/atomic.CompareAndSwapInt64", "sync/atomic.AddInt64", "sync/atomic.StoreInt64"], unfollowed := true, recurses := true, plainKeys := false, apart := false }
def PlainAloneSaid : Prop := plainAloneRow.holds Tryz.pinned (OpenSpec.ofChange plainAloneSpec)

/-- ITS FALSE NEIGHBOUR: 'it returns false'. Refute it at one input. -/
def plainAloneWrong : ChangeSpec := { name := "plainAlone", fn := fun _ => fun
  | [d] => { results := [.lit (.bool false)], args := [d] }
  | _ => none }
def PlainAloneWrongFalsely : Prop := plainAloneRow.holds Tryz.pinned (OpenSpec.ofChange plainAloneWrong)

/-- 'gantletlaw18.PlainOne': WHATEVER THE INPUT: true; the input reads as it did. -/
def plainOneSpec : ChangeSpec := { name := "plainOne", fn := fun _ => fun
  | [d] => { results := [.lit (.bool true)], args := [d] }
  | _ => none }
def plainOneRow : OpenClaim := { program := "ytiijipocjellpaagreat", sum := "09ee050d7a277e4e64de95be2b04d26b955ca5f07bdd2a1f5d917851e327b29f", func := "gantlet/gantletlaw18.PlainOne", spec := "plainOne", inPlace := ["sync/atomic.LoadInt64", "sync/atomic.CompareAndSwapInt64", "sync/atomic.AddInt64", "sync/atomic.StoreInt64"], unfollowed := true, recurses := true, plainKeys := false, apart := false }
def PlainOneSaid : Prop := plainOneRow.holds Tryz.pinned (OpenSpec.ofChange plainOneSpec)

/-- ITS FALSE NEIGHBOUR: 'it returns false'. Refute it at one input. -/
def plainOneWrong : ChangeSpec := { name := "plainOne", fn := fun _ => fun
  | [d] => { results := [.lit (.bool false)], args := [d] }
  | _ => none }
def PlainOneWrongFalsely : Prop := plainOneRow.holds Tryz.pinned (OpenSpec.ofChange plainOneWrong)

/-- 'gantletlaw18.PlainRuns': WHATEVER THE INPUT: true; the input reads as it did. -/
def plainRunsSpec : ChangeSpec := { name := "plainRuns", fn := fun _ => fun
  | [d1, d2] => { results := [.lit (.bool true)], args := [d1, d2] }
  | _ => none }
def plainRunsRow : OpenClaim := { program := "ytiijipocjellpaagreat", sum := "09ee050d7a277e4e64de95be2b04d26b955ca5f07bdd2a1f5d917851e327b29f", func := "gantlet/gantletlaw18.PlainRuns", spec := "plainRuns", inPlace := ["sync/atomic.LoadInt64", "sync/atomic.CompareAndSwapInt64", "sync/atomic.AddInt64", "sync/atomic.StoreInt64"], unfollowed := true, recurses := true, plainKeys := false, apart := false }
def PlainRunsSaid : Prop := plainRunsRow.holds Tryz.pinned (OpenSpec.ofChange plainRunsSpec)

/-- ITS FALSE NEIGHBOUR: 'it returns false'. Refute it at one input. -/
def plainRunsWrong : ChangeSpec := { name := "plainRuns", fn := fun _ => fun
  | [d1, d2] => { results := [.lit (.bool false)], args := [d1, d2] }
  | _ => none }
def PlainRunsWrongFalsely : Prop := plainRunsRow.holds Tryz.pinned (OpenSpec.ofChange plainRunsWrong)

/- THE SECOND FORM. 'bulk': how many values and letters a reading holds, each counted each time it is reached (what is shared counts as often as it is met; a slice's spare places count too). A statement '..UptoSaid' is the law's where the arguments, and the package variables that the reading takes, are together of bulk at most 1048576: NARROWER than '..Said'. Prove '..Said' where nothing that the law and all that it calls make is longer than what came in: it says more and counts as full. Else prove '..UptoSaid'. A law counts once. -/
mutual
def uptoBulk {H : Type} : DataW H → Nat
  | .lit (.string bytes) => bytes.length + 1
  | .lit _ => 1
  | .nil => 1
  | .ptr d => uptoBulk d + 1
  | .slice elems spare => uptoBulkAll elems + uptoBulkAll spare + 1
  | .agg parts => uptoBulkAll parts + 1
  | .iface _ d => uptoBulk d + 1
  | .map entries => uptoBulkEntries entries + 1
  | .held _ => 1
def uptoBulkAll {H : Type} : List (DataW H) → Nat
  | [] => 0
  | d :: r => uptoBulk d + uptoBulkAll r
def uptoBulkEntries {H : Type} : List (Lit × DataW H) → Nat
  | [] => 0
  | x :: r => uptoBulkEntry x + uptoBulkEntries r
def uptoBulkEntry {H : Type} : Lit × DataW H → Nat
  | (.string bytes, d) => bytes.length + uptoBulk d + 1
  | (_, d) => uptoBulk d + 1
 end
def uptoSmall : (H : Type) → List (DataW H) → Bool := fun _ ds => decide (uptoBulkAll ds ≤ 1048576)
def OpenSpec.upto (s : _root_.Go.ChangeSpec) : _root_.Go.OpenSpec := { _root_.Go.OpenSpec.ofChange s with cond := some uptoSmall }

/-- 'gantletlaw18.PlainShares', WHERE WHAT IT READS IS OF BULK AT MOST 1048576: true; the input reads as it did. -/
def plainSharesUptoRow : OpenClaim := { program := "ytiijipocjellpaagreat", sum := "09ee050d7a277e4e64de95be2b04d26b955ca5f07bdd2a1f5d917851e327b29f", func := "gantlet/gantletlaw18.PlainShares", spec := "plainShares", inPlace := ["sync/atomic.LoadInt64", "sync/atomic.CompareAndSwapInt64", "sync/atomic.AddInt64", "sync/atomic.StoreInt64"], unfollowed := true, recurses := true, plainKeys := false, apart := false, narrowed := true }
def PlainSharesUptoSaid : Prop := plainSharesUptoRow.holds Tryz.pinned (OpenSpec.upto plainSharesSpec)

/-- 'gantletlaw18.PlainAlone', WHERE WHAT IT READS IS OF BULK AT MOST 1048576: true; the input reads as it did. -/
def plainAloneUptoRow : OpenClaim := { program := "ytiijipocjellpaagreat", sum := "09ee050d7a277e4e64de95be2b04d26b955ca5f07bdd2a1f5d917851e327b29f", func := "gantlet/gantletlaw18.PlainAlone", spec := "plainAlone", inPlace := ["sync/atomic.LoadInt64", "sync/atomic.CompareAndSwapInt64", "sync/atomic.AddInt64", "sync/atomic.StoreInt64"], unfollowed := true, recurses := true, plainKeys := false, apart := false, narrowed := true }
def PlainAloneUptoSaid : Prop := plainAloneUptoRow.holds Tryz.pinned (OpenSpec.upto plainAloneSpec)

/-- 'gantletlaw18.PlainOne', WHERE WHAT IT READS IS OF BULK AT MOST 1048576: true; the input reads as it did. -/
def plainOneUptoRow : OpenClaim := { program := "ytiijipocjellpaagreat", sum := "09ee050d7a277e4e64de95be2b04d26b955ca5f07bdd2a1f5d917851e327b29f", func := "gantlet/gantletlaw18.PlainOne", spec := "plainOne", inPlace := ["sync/atomic.LoadInt64", "sync/atomic.CompareAndSwapInt64", "sync/atomic.AddInt64", "sync/atomic.StoreInt64"], unfollowed := true, recurses := true, plainKeys := false, apart := false, narrowed := true }
def PlainOneUptoSaid : Prop := plainOneUptoRow.holds Tryz.pinned (OpenSpec.upto plainOneSpec)

/-- 'gantletlaw18.PlainRuns', WHERE WHAT IT READS IS OF BULK AT MOST 1048576: true; the input reads as it did. -/
def plainRunsUptoRow : OpenClaim := { program := "ytiijipocjellpaagreat", sum := "09ee050d7a277e4e64de95be2b04d26b955ca5f07bdd2a1f5d917851e327b29f", func := "gantlet/gantletlaw18.PlainRuns", spec := "plainRuns", inPlace := ["sync/atomic.LoadInt64", "sync/atomic.CompareAndSwapInt64", "sync/atomic.AddInt64", "sync/atomic.StoreInt64"], unfollowed := true, recurses := true, plainKeys := false, apart := false, narrowed := true }
def PlainRunsUptoSaid : Prop := plainRunsUptoRow.holds Tryz.pinned (OpenSpec.upto plainRunsSpec)

end Rows
end Go.Proofs.YtiijipocjellpaaGreat
