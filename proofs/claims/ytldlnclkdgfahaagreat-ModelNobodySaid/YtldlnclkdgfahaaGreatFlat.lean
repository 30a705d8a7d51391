/- Arguments that hold no address: which cells they have. -/
import Derived.Test.YtldlnclkdgfahaaGreatFrame
import Derived.Test.YtldlnclkdgfahaaGreatEvS
namespace Go.Proofs.YtldlnclkdgfahaaGreat
open Go.ChangeShapes Go.WideShapes Go.ChangeAt Go.RowKit
namespace Ev
section
variable {P : Program} {w : World} {r : Reach} {base : Nat}
theorem okWide_cells {t : TypeId} {ts : List TypeId} {v : Value} (hu : (match P.underlying t with | some (.struct _) | some (.array _ _) => true | _ => false) = true) (hts : P.cellTypes P.depth t = some ts) (hn : P.cellsOf t = ts.length) (h : Value.okWide P w r base t v) :
    ∃ cs : List Value, v = .agg cs.toArray ∧ cs.length = ts.length ∧ ∀ (i : Nat) u c, ts[i]? = some u → cs[i]? = some c → Cell.okWide P w r base u c := by
  unfold Value.okWide at h
  have key : (∃ cs, v = .agg cs ∧ cs.size = P.cellsOf t ∧ Row.okWide P w r base t cs) → ∃ cs : List Value, v = .agg cs.toArray ∧ cs.length = ts.length ∧ ∀ (i : Nat) u c, ts[i]? = some u → cs[i]? = some c → Cell.okWide P w r base u c := by
    rintro ⟨cs, rfl, hs, ts', h1, _, h3⟩
    rw [hts] at h1
    injection h1 with h1
    subst h1
    refine ⟨cs.toList, by simp, by simpa [hn] using hs, fun i u c hi hc => ?_⟩
    obtain ⟨u', hu', hok⟩ := h3 i c (by simpa using hc)
    have hlt : i < ts.length := (List.getElem?_eq_some_iff.1 hi).1
    rw [Nat.mod_eq_of_lt hlt, hi] at hu'
    injection hu' with hu'
    subst hu'
    exact hok
  split at h
  · exact key h
  · exact key h
  · rename_i h1 h2
    exfalso
    revert hu
    cases hd : P.underlying t with
    | none => simp
    | some d => cases d <;> simp_all
theorem okWide_int {u : TypeId} {k : IntKind} {c : Value} (hu : P.underlying u = some (.int k)) (h : Cell.okWide P w r base u c) : ∃ n, c = .int k n ∧ k.has n := by
  unfold Cell.okWide Cell.ok at h
  rw [hu] at h
  cases c <;> simp at h
  obtain ⟨rfl, h⟩ := h
  exact ⟨_, rfl, h⟩
theorem okWide_bool {u : TypeId} {c : Value} (hu : P.underlying u = some .bool) (h : Cell.okWide P w r base u c) : ∃ b, c = .bool b := by
  unfold Cell.okWide Cell.ok at h
  rw [hu] at h
  cases c <;> simp at h
  exact ⟨_, rfl⟩
theorem okWide_str {u : TypeId} {c : Value} (hu : P.underlying u = some .string) (h : Cell.okWide P w r base u c) : ∃ b, c = .string b := by
  unfold Cell.okWide Cell.ok at h
  rw [hu] at h
  cases c <;> simp at h
  exact ⟨_, rfl⟩
theorem okWide_one {t : TypeId} {v : Value} (hu : (match P.underlying t with | some (.struct _) | some (.array _ _) => true | _ => false) = false) (h : Value.okWide P w r base t v) : Cell.okWide P w r base t v := by
  unfold Value.okWide at h
  split at h
  · rename_i h1; rw [h1] at hu; cases hu
  · rename_i h1; rw [h1] at hu; cases hu
  · exact h
theorem okWide_slice {u e : TypeId} {c : Value} (hu : P.underlying u = some (.slice e)) (h : Cell.okWide P w r base u c) : c.oneCell' = true := by
  unfold Cell.okWide Cell.ok at h
  rw [hu] at h
  cases c <;> first | rfl | (simp at h)
/-- Answers at the given places. -/
def orcAt : Nat → List (Nat × Bool) → List (Option Bool)
  | _, [] => []
  | n, (i, b) :: l => List.replicate (i - n) none ++ (some b :: orcAt (i + 1) l)
/-- Numbers at the given places. -/
def numAt : Nat → List (Nat × Int) → List (Option Int)
  | _, [] => []
  | n, (i, b) :: l => List.replicate (i - n) none ++ (some b :: numAt (i + 1) l)
def atAny {α : Type} : Nat → List (Nat × α) → List (Option α)
  | _, [] => []
  | n, (i, b) :: l => List.replicate (i - n) none ++ (some b :: atAny (i + 1) l)
def orcs (b : List (Nat × Bool)) (v : List (Nat × Int)) : Orc := ⟨orcAt 0 b, numAt 0 v, [], [], []⟩
def orcx (b : List (Nat × Bool)) (v : List (Nat × Int)) (x : List (Nat × Nat)) (l : List (Nat × List Cell)) : Orc := ⟨orcAt 0 b, numAt 0 v, atAny 0 x, atAny 0 l, []⟩
def orcw (b : List (Nat × Bool)) (v : List (Nat × Int)) (x : List (Nat × Nat)) (l : List (Nat × List Cell)) (w : List (Nat × Told)) : Orc := ⟨orcAt 0 b, numAt 0 v, atAny 0 x, atAny 0 l, atAny 0 w⟩
/-- What is told of tests, one by one. -/
theorem obs_nil : ∀ p ∈ ([] : List (Bool × Bool)), p.1 = p.2 := by simp
theorem obs_cons {a b : Bool} {l : List (Bool × Bool)} (h : a = b) (hl : ∀ q ∈ l, q.1 = q.2) : ∀ q ∈ (a, b) :: l, q.1 = q.2 := by
  intro q hq
  rcases List.mem_cons.1 hq with rfl | hq
  · exact h
  · exact hl q hq
theorem agg_false {b : Bool} (h : b = true → False) : b = false := by
  cases b
  · rfl
  · exact (h rfl).elim
theorem wrap64 {x : Int} (h : -9223372036854775808 ≤ x ∧ x < 9223372036854775808) : IntKind.i64.wrap x = x := by
  rw [IntKind.wrap_i64]
  omega
theorem has64 {x : Int} (h : IntKind.i64.has x) : -9223372036854775808 ≤ x ∧ x < 9223372036854775808 := by
  have e : IntKind.i64.min = -9223372036854775808 := by decide
  have f : IntKind.i64.max = 9223372036854775807 := by decide
  unfold IntKind.has at h
  rw [e, f] at h
  omega
theorem idx_eq {b : Int} (h : 0 ≤ b) : b = Int.ofNat b.toNat := (Int.toNat_of_nonneg h).symm
theorem blt_of {n m : Nat} (h : n < m) : Nat.blt n m = true := Nat.ble_eq_true_of_le h
/-- The element at an index. -/
def sel (b : Int) (l : List Int) : Int := l.getD b.toNat 0
def ints64 : List Value → Option (List Int)
  | [] => some []
  | .int .i64 n :: l => match ints64 l with | some r => some (n :: r) | none => none
  | _ => none
theorem ints64_spec : ∀ {l : List Value} {ks : List Int}, ints64 l = some ks → l = int64s ks
  | [], ks, h => by simp [ints64] at h; subst h; rfl
  | x :: l, ks, h => by
    unfold ints64 at h
    split at h
    · cases ‹_ :: _ = []›
    · rename_i n l' hx
      injection hx with h1 h2
      subst h1 h2
      split at h
      · rename_i r hr
        injection h with h
        subst h
        rw [ints64_spec hr]
        rfl
      · cases h
    · cases h
end
end Ev
end Go.Proofs.YtldlnclkdgfahaaGreat
