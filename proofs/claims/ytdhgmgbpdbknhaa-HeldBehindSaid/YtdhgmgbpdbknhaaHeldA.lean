/- Contracts of package held. -/
import Derived.Test.YtdhgmgbpdbknhaaTail
import Derived.Deep.RegionLaw
import Derived.Deep.AppendLies
import Derived.Maps.AppendAt
namespace Go.Proofs.Ytdhgmgbpdbknhaa
open Go.ChangeShapes Go.WideShapes Go.ChangeAt Go.RowKit
namespace Held


/-- The cells of entries. -/
def flat : List (Int × Int) → List Value
  | [] => []
  | p :: l => .int .i64 p.1 :: .int .i64 p.2 :: flat l
theorem flat_length : ∀ l, (flat l).length = l.length * 2
  | [] => rfl
  | p :: l => by simp [flat, flat_length l]; omega
theorem flat_append : ∀ l m, flat (l ++ m) = flat l ++ flat m
  | [], m => rfl
  | p :: l, m => by simp [flat, flat_append l m]
theorem flat_one (l : List (Int × Int)) (x y : Int) : flat (l ++ [(x, y)]) = flat l ++ [.int .i64 x, .int .i64 y] := flat_append _ _
theorem flat_get : ∀ (l : List (Int × Int)) (i : Nat) (p : Int × Int), l[i]? = some p → (flat l)[i * 2]? = some (.int .i64 p.1) ∧ (flat l)[i * 2 + 1]? = some (.int .i64 p.2)
  | [], i, p, h => by simp at h
  | q :: l, 0, p, h => by simp at h; subst h; simp [flat]
  | q :: l, i + 1, p, h => by
    have := flat_get l i p (by simpa using h)
    simpa [flat, Nat.add_mul] using this
/-- The row of a value of the call's own. -/
def Row (base : Nat) (w : World) (v : Value) (xs : List (Int × Int)) : Prop := w.ownsRow base 32 2 v xs.length (flat xs)
section
variable {base : Nat} {w w' : World} {v : Value} {xs : List (Int × Int)}
theorem Row.grown (h : Row base w v xs) (hb : ∀ g, v.ownBlock = some g → g < w.heap.size → w'.heap[g]? = w.heap[g]?) : Row base w' v xs := by
  refine ⟨h.1, ?_⟩
  rcases h.2 with h0 | ⟨g, cap, cur, rfl, hbg, hg, rest⟩
  · exact Or.inl h0
  · have hlt : g < w.heap.size := (Array.getElem?_eq_some_iff.1 hg).1
    exact Or.inr ⟨g, cap, cur, rfl, hbg, (hb g rfl hlt).trans hg, rest⟩
theorem Row.below (h : Row base w v xs) (hb : Below w.heap.size w w') : Row base w' v xs := h.grown fun g _ hlt => hb.block g hlt
theorem Row.shape (h : Row base w v xs) : ∃ A c, v = .slice A xs.length c ∧ xs.length ≤ c ∧ c ≤ maxLen := by
  rcases h.2 with ⟨rfl, hn⟩ | ⟨g, cap, cur, rfl, hbg, hg, hn, hc, _⟩
  · exact ⟨none, 0, by rw [hn], by omega, Nat.zero_le _⟩
  · exact ⟨_, _, rfl, hn, hc⟩
theorem Row.lt (h : Row base w v xs) (g : Nat) (hg : v.ownBlock = some g) : g < w.heap.size ∧ base ≤ g := by
  rcases h.2 with ⟨rfl, hn⟩ | ⟨g', cap, cur, rfl, hbg, hh, _⟩
  · simp [Value.ownBlock] at hg
  · simp [Value.ownBlock] at hg
    subst hg
    exact ⟨(Array.getElem?_eq_some_iff.1 hh).1, hbg⟩
/-- What stands at a place. -/
theorem Row.at_ (h : Row base w v xs) (i : Nat) (p : Int × Int) (hi : xs[i]? = some p) : ∃ g c, v = .slice (some ⟨g, 0, none⟩) xs.length c ∧ xs.length ≤ c ∧ g < w.heap.size ∧ w.cell? ⟨g, i * 2, none⟩ = some (.int .i64 p.1) ∧ w.cell? ⟨g, i * 2 + 1, none⟩ = some (.int .i64 p.2) := by
  have hlt := (List.getElem?_eq_some_iff.1 hi).1
  rcases h.2 with ⟨rfl, hn⟩ | ⟨g, cap, cur, rfl, hbg, hg, hn, hc, hsz, htk⟩
  · omega
  · have e := flat_get xs i p hi
    rw [← htk] at e
    have key : ∀ j u, (cur.toList.take (xs.length * 2))[j]? = some u → w.cell? ⟨g, j, none⟩ = some u := by
      intro j u hj
      have hj2 : j < xs.length * 2 := by
        have := (List.getElem?_eq_some_iff.1 hj).1
        simp at this; omega
      rw [List.getElem?_take_of_lt hj2] at hj
      rw [cell_of_row w g j cur 32 (0, 0) hg]
      simpa using hj
    exact ⟨g, cap, rfl, hn, (Array.getElem?_eq_some_iff.1 hg).1, key _ _ e.1, key _ _ e.2⟩
/-- Without the last one. -/
theorem Row.pop {A : Option Addr} {c : Nat} {p : Int × Int} (h : Row base w (.slice A (xs.length + 1) c) (xs ++ [p])) : Row base w (.slice A xs.length c) xs := by
  refine ⟨flat_length xs, ?_⟩
  rcases h.2 with ⟨h0, hn⟩ | ⟨g, cap, cur, e, hbg, hg, hn, hc, hsz, htk⟩
  · simp at hn
  · injection e with e1 e2 e3
    subst e1 e3
    refine Or.inr ⟨g, c, cur, rfl, hbg, hg, by simp at hn; omega, hc, hsz, ?_⟩
    have e : flat xs = (flat (xs ++ [p])).take (xs.length * 2) := by rw [flat_append, List.take_left' (flat_length xs)]
    rw [e, ← htk, List.take_take, Nat.min_eq_left (by simp; omega)]
end
/-- A made row of entries, in block b. -/
structure At (base : Nat) (w : World) (b : Nat) (v : Value) (xs : List (Int × Int)) : Prop where
  has : Has w b [.bool true, v]
  row : Row base w v xs
  ne : v.ownBlock ≠ some b
  ge : base ≤ b
/-- All but block b and the entries' own stays. -/
structure Keep (w w' : World) (b : Nat) (v : Value) : Prop where
  os : w'.os = w.os
  tape : w'.tape = w.tape
  output : w'.output = w.output
  size : w.heap.size ≤ w'.heap.size
  block : ∀ k, k < w.heap.size → k ≠ b → v.ownBlock ≠ some k → w'.heap[k]? = w.heap[k]?
/-- Where the new ones lie. -/
def Loc (w : World) (v v' : Value) : Prop := ∀ g, v'.ownBlock = some g → v.ownBlock = some g ∨ w.heap.size ≤ g
theorem At.below {base b : Nat} {w w' : World} {v : Value} {xs : List (Int × Int)} (h : At base w b v xs) (hb : Below w.heap.size w w') : At base w' b v xs := ⟨h.has.below hb, h.row.below hb, h.ne, h.ge⟩
theorem Keep.base {base b : Nat} {w w' : World} {v : Value} {xs : List (Int × Int)} (h : Keep w w' b v) (ha : At base w b v xs) (hb : base ≤ w.heap.size) : Below base w w' :=
  ⟨h.os, h.tape, h.output, h.size, fun k hk => h.block k (by omega) (by have := ha.ge; omega) (fun e => by have := (ha.row.lt k e).2; omega)⟩

theorem seen_info : (Try.prog.info? 32).map (fun i => (i.zero, i.size, i.bytes)) = some (some (.agg #[.int .i64 0, .int .i64 0]), 2, 16) := by kernel_rfl
def Pushed (base b : Nat) (v : Value) (xs : List (Int × Int)) (r : Value) (w : World) (e : Ending) (w' : World) : Prop := e = .returned r ∧ ∃ v', At base w' b v' xs ∧ Keep w w' b v ∧ Loc w v v'

theorem two_cells (w w' : World) (x y : Int) (t : TypeId) (H : Nat) (hH : w.heap.size = H) (hw : w' = w.alloc (.cells #[.int .i64 x, .int .i64 y] t) ∨ w' = (w.alloc (.cells #[.int .i64 x, .int .i64 y] t)).drew) : ∀ j u, [Value.int .i64 x, Value.int .i64 y][j]? = some u → w'.cell? ((⟨H, 0, none⟩ : Addr).add j) = some u := by
  subst hH
  rcases hw with rfl | rfl <;> intro j u hj <;> rcases j with _ | _ | j <;> simp at hj <;> subst hj <;> simp [Addr.add, go_sem]
theorem two_one (x y : Int) : ∀ u ∈ [Value.int .i64 x, Value.int .i64 y], u.oneCell' = true := by
  intro u hu
  simp at hu
  rcases hu with rfl | rfl <;> rfl
theorem grown_has {b : Nat} {cs : List Value} {w w' : World} {r : Option Nat} (h : Has w b cs) (hg : w.grownBy w' r) (hr : r ≠ some b) : Has w' b cs := by
  have e := hg.block b h.1 (by first | exact hr | exact fun e => hr e.symm | exact fun e => hr e)
  exact ⟨Nat.lt_of_lt_of_le h.1 hg.size, fun i v hi => ⟨(World.cell?_of_block (a := ⟨b, i, none⟩) e).trans (h.2 i v hi).1, (World.frozen?_of_block (a := ⟨b, i, none⟩) e).trans (h.2 i v hi).2⟩⟩
theorem push_step {base b : Nat} {v : Value} {xs : List (Int × Int)} {w W1 w' : World} (h : At base w b v xs) (hb1 : Below w.heap.size w W1) (hg : W1.grownBy w' v.ownBlock) : Has w' b [.bool true, v] := grown_has (h.has.below hb1) hg h.ne
theorem push_end {base b g cap : Nat} {v : Value} {xs : List (Int × Int)} {x y : Int} {w W1 w' : World} (h : At base w b v xs) (hb1 : Below w.heap.size w W1) (hg : W1.grownBy w' v.ownBlock)
    (hown : w'.ownsRow base 32 2 (.slice (some ⟨g, 0, none⟩) (xs.length + 1) cap) (xs.length + 1) (flat xs ++ [.int .i64 x, .int .i64 y])) (hloc : v.ownBlock = some g ∨ g = W1.heap.size) :
    Pushed base b v (xs ++ [(x, y)]) (.tuple #[]) w (.returned (.tuple #[])) (w'.setCell ⟨b, 1, none⟩ (.slice (some ⟨g, 0, none⟩) (xs.length + 1) cap)) := by
  have hs := push_step h hb1 hg
  have hsz := hb1.size
  have hlt := h.has.lt
  have hgb : g ≠ b := by
    rcases hloc with e | e
    · intro e2; subst e2; exact h.ne e
    · omega
  have hrow : Row base w' (.slice (some ⟨g, 0, none⟩) (xs.length + 1) cap) (xs ++ [(x, y)]) := by
    unfold Row
    rw [flat_one]
    simpa using hown
  refine ⟨rfl, _, ⟨by simpa using hs.set_ 1 (.slice (some ⟨g, 0, none⟩) (xs.length + 1) cap) (by simp), hrow.grown fun k hk hk2 => ?_, ?_, h.ge⟩, ⟨?_, ?_, ?_, ?_, fun k hk hkb hkv => ?_⟩, ?_⟩
  · simp [Value.ownBlock] at hk; subst hk
    exact Below.heap_setCell w' _ _ g hgb
  · simp [Value.ownBlock, hgb]
  · exact hg.os.trans hb1.os
  · exact hg.tape.trans hb1.tape
  · exact hg.output.trans hb1.output
  · simpa [World.setCell] using Nat.le_trans hb1.size hg.size
  · exact ((Below.heap_setCell w' _ _ k hkb).trans (hg.block k (by omega) (by first | exact hkv | exact fun e => hkv e.symm | exact fun e => hkv e))).trans (hb1.block k hk)
  · intro k hk
    simp [Value.ownBlock] at hk; subst hk
    rcases hloc with e | e
    · exact Or.inl e
    · exact Or.inr (by omega)

set_option maxRecDepth 100000 in
set_option maxHeartbeats 2000000 in
theorem push_any (base b : Nat) (v : Value) (xs : List (Int × Int)) (x y : Int) (w : World) (hb : base ≤ w.heap.size) (h : At base w b v xs) (hn : xs.length ≤ 1000) :
    Calls Try.prog 23 #[.pointer (some ⟨b, 1, none⟩), .agg #[.int .i64 x, .int .i64 y]] w (Pushed base b v (xs ++ [(x, y)]) (.tuple #[]) w) := by
  obtain ⟨i0, hi, hz0, hz1, hz2⟩ := info_parts seen_info
  have c1 := h.has.here 1 _ rfl
  have f1 := (h.has.2 1 _ rfl).2
  have hlt := h.has.lt
  go_enter Try.func23, Try.ntmps23
  go_wp2_with fail
  go_region_law ((refine step_append_lies _ rfl (.tmp 8) (.tmp 10) 25 rfl base 32 i0 (.agg #[.int .i64 0, .int .i64 0]) 2 16 Try.underlying25 hi hz0 hz1 hz2 rfl (by decide) v xs.length (flat xs) (by rfl) (h.row.below (by repeat (first | exact Below.refl _ _ | refine Below.drew ?_ | refine Below.alloc ?_ (by simp <;> omega) _))) ⟨w.heap.size + 1, 0, none⟩ 1 1 [.int .i64 x, .int .i64 y] (by rfl) (by rfl) (two_cells (w.alloc (.cells #[.int .i64 x, .int .i64 y] 32)) _ _ _ 32 _ (by simp) (by first | exact Or.inl rfl | exact Or.inr rfl)) (two_one x y) (by omega) (by unfold maxLen; omega) (by omega) (by simp; omega) _ rfl ?_; intro g cap w' hown hgrow hloc hgl; have hst := push_step h (by repeat (first | exact Below.refl _ _ | refine Below.drew ?_ | refine Below.alloc ?_ (by simp <;> omega) _)) hgrow; have k1 := hst.here 1 _ rfl; have kf := (hst.2 1 _ rfl).2))
  all_goals (go_end0; exact push_end h (by repeat (first | exact Below.refl _ _ | refine Below.drew ?_ | refine Below.alloc ?_ (by simp <;> omega) _)) hgrow hown (by simpa using hloc))

end Held
end Go.Proofs.Ytdhgmgbpdbknhaa
