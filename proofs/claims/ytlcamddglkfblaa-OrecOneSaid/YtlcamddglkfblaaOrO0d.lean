/- OrecOne: what its loop goes through. -/
import Derived.Test.YtlcamddglkfblaaOrA
namespace Go.Proofs.Ytlcamddglkfblaa
open Go.RowKit
namespace Ev
set_option linter.unusedVariables false
inductive one0aX (sz : Int) (Oa : Obj) (oa : Nat) (na : Nat) (ca : Nat) (f0 : Nat → Int) (f1 : Nat → Int) (f2 : Nat → Int) (f3 : Nat → Int) (f4 : Nat → Int) (f5 : Nat → Int) (f6 : Nat → Int) (f7 : Nat → Int) where
  | m0 (W : List Int) (Tk : List Int) (By : List Int) (n : Nat) (i : Nat) (h0 : 1 ≤ n) (h1 : n ≤ 8) (h2 : W.length = n) (h3 : Tk.length = n) (h4 : By.length = 24) (h5 : i ≤ na) (h6 : i ≤ 60) (hJ : Ow n W Tk By)
noncomputable def one0aL (sz : Int) (Oa : Obj) (oa : Nat) (na : Nat) (ca : Nat) (f0 : Nat → Int) (f1 : Nat → Int) (f2 : Nat → Int) (f3 : Nat → Int) (f4 : Nat → Int) (f5 : Nat → Int) (f6 : Nat → Int) (f7 : Nat → Int) : one0aX sz Oa oa na ca f0 f1 f2 f3 f4 f5 f6 f7 → List (Nat × Value)
  | .m0 W Tk By n i h0 h1 h2 h3 h4 h5 h6 hJ => [(1, Value.slice (some ⟨0, oa, none⟩) na ca), (5, Value.int .i64 ((n : Nat) : Int)), (6, Value.pointer (some ⟨3, 0, none⟩)), (8, Value.pointer (some ⟨4, 0, none⟩)), (9, Value.int .i64 ((i : Nat) : Int))]
noncomputable def one0aH (sz : Int) (Oa : Obj) (oa : Nat) (na : Nat) (ca : Nat) (f0 : Nat → Int) (f1 : Nat → Int) (f2 : Nat → Int) (f3 : Nat → Int) (f4 : Nat → Int) (f5 : Nat → Int) (f6 : Nat → Int) (f7 : Nat → Int) : one0aX sz Oa oa na ca f0 f1 f2 f3 f4 f5 f6 f7 → List AObj
  | .m0 W Tk By n i h0 h1 h2 h3 h4 h5 h6 hJ => [.ro Oa, .cells (int64s W) 84, .cells (int64s Tk) 84, .cells [Value.slice (some ⟨1, 0, none⟩) n n, Value.slice (some ⟨2, 0, none⟩) n n] 74, .cells (int64s By) 69]
def one0aM (sz : Int) (Oa : Obj) (oa : Nat) (na : Nat) (ca : Nat) (f0 : Nat → Int) (f1 : Nat → Int) (f2 : Nat → Int) (f3 : Nat → Int) (f4 : Nat → Int) (f5 : Nat → Int) (f6 : Nat → Int) (f7 : Nat → Int) : one0aX sz Oa oa na ca f0 f1 f2 f3 f4 f5 f6 f7 → Nat
  | .m0 W Tk By n i h0 h1 h2 h3 h4 h5 h6 hJ => 61 - i
def one0aB (sz : Int) (Oa : Obj) (oa : Nat) (na : Nat) (ca : Nat) (f0 : Nat → Int) (f1 : Nat → Int) (f2 : Nat → Int) (f3 : Nat → Int) (f4 : Nat → Int) (f5 : Nat → Int) (f6 : Nat → Int) (f7 : Nat → Int) : one0aX sz Oa oa na ca f0 f1 f2 f3 f4 f5 f6 f7 → List Nat
  | .m0 W Tk By n i h0 h1 h2 h3 h4 h5 h6 hJ => []
end Ev
end Go.Proofs.Ytlcamddglkfblaa
