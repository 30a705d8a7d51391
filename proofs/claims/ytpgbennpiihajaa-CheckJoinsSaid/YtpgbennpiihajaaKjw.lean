/- The ways that are open, by the document's words: plain. -/
import Derived.Test.YtpgbennpiihajaaKjv
namespace Go.Proofs.Ytpgbennpiihajaa
open Go.RowKit
namespace Ev
set_option linter.unusedVariables false
set_option linter.unusedSimpArgs false
def ZaJ (l : List R_ii) : R_ii := l.getD (l.length - 1) R_ii.z
def brP (l : List R_ii) : R_ii := if l.length = 0 then ⟨-1, 0⟩ else ZaJ l
def Zhm (l : List R_ii) (op : Int) (k : Nat) : List R_ii :=
 if op = 15 then if 8 ≤ l.length then l else l ++ [⟨(k : Int), 0⟩]
 else if op = 16 then if l.length = 0 then l else if (ZaJ l).a1 = 1 then l else l.take (l.length - 1) ++ [⟨(ZaJ l).a0, 1⟩]
 else if op = 17 then l.take (l.length - 1) else l
def ZcI (l : List R_ii) (op : Int) : Bool :=
 if op = 15 then decide (l.length < 8)
 else if op = 16 then if l.length = 0 then false else if (ZaJ l).a1 = 1 then false else true
 else if op = 17 then decide (0 < l.length)
 else if op = 18 then decide (0 < l.length)
 else if op = 20 then decide (l.length = 0) else true
def opn (L : List R_iiii) : Nat → List R_ii
 | 0 => []
 | k + 1 => Zhm (opn L k) (L.getD k R_iiii.z).a0 k
theorem Zs5 {l : List R_ii} {op : Int} {k : Nat} (h : l.length ≤ 8) : (Zhm l op k).length ≤ 8 := by
 unfold Zhm
 repeat' split
 all_goals try simp only [List.length_append, List.length_take, List.length_cons, List.length_nil]
 all_goals omega
theorem Zkn (L : List R_iiii) : ∀ k, (opn L k).length ≤ 8
 | 0 => by simp [opn]
 | k + 1 => Zs5 (Zkn L k)
end Ev
end Go.Proofs.Ytpgbennpiihajaa
