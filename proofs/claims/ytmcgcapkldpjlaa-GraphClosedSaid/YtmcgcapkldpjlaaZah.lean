/- The law GraphClosed, for every input. -/
import Derived.Test.YtmcgcapkldpjlaaZag
import Derived.Test.YtmcgcapkldpjlaaZac
import Derived.StillTail
import Derived.OrdersHeld
import Derived.WideBlind
/- The walk through private objects: plain. -/
namespace Go.Proofs.Ytmcgcapkldpjlaa
open Go.RowKit
namespace Ev
namespace Pg
set_option linter.unusedVariables false
set_option linter.unusedSimpArgs false
namespace P3
def ZdQ (x : Ob) : Prop := x.a5 = 1
section
variable {L : List Ob} {Mx : List RA} {R : List R_ii} {N B v : Nat}
theorem e0 (hM : MI L 0 Mx) (k l : Int) : (∃ j : Nat, Zbm L k l j ∧ ZdQ (ob L j) ∧ Za6 k l L Mx [] N = some (.r1 (ZC [] k l (j : Int)) [(j : Int)] [⟨(j : Int), 0⟩])) ∨ ((∀ j, Zbm L k l j → Zav [] k l = true ∨ ¬ ZdQ (ob L j)) ∧ Za6 k l L Mx [] N = some .r0) := by
 unfold Za6
 rcases ZhZ hM k l N with ⟨j, h1, h2⟩ | ⟨h1, y, h2⟩
 ·by_cases hy : ZdQ (ob L j)
  ·refine .inl ⟨j, h1, hy, Z0 h2 (Z9 (by simp) (Z9 (by simp [Zav]) (Zk (by omega) (Zk h1.2.1 (Zk hy rfl)))))⟩
  ·refine .inr ⟨fun i hi => .inr (by rw [Zkv hi h1]; exact hy), Z0 h2 (Z9 (by simp) (Z9 (by simp [Zav]) (Zk (by omega) (Zk h1.2.1 (Z9 hy rfl)))))⟩
 ·exact .inr ⟨fun j hj => absurd hj (h1 j), Z0 h2 (Zk (by simp) rfl)⟩
theorem e1 (hM : MI L 0 Mx) (k l : Int) (M : List RA) (O : List Int) (S : List R_ii) (hO : O.length ≤ 100000) (hS : S.length ≤ 100000) : (∃ j : Nat, Zbm L k l j ∧ ¬ Zav M k l = true ∧ ZdQ (ob L j) ∧ Zab k l L Mx M O S N = some (.r1 (ZC M k l (j : Int)) (O ++ [(j : Int)]) (S ++ [⟨(j : Int), 0⟩]))) ∨ ((∀ j, Zbm L k l j → Zav M k l = true ∨ ¬ ZdQ (ob L j)) ∧ Zab k l L Mx M O S N = some .r0) := by
 unfold Zab
 rcases ZhZ hM k l N with ⟨j, h1, h2⟩ | ⟨h1, y, h2⟩
 ·by_cases hm : Zav M k l = true
  ·exact .inr ⟨fun i hi => .inl hm, Z0 h2 (Z9 (by simp) (Zk hm rfl))⟩
  by_cases hy : ZdQ (ob L j)
  ·refine .inl ⟨j, h1, hm, hy, Z0 h2 (Z9 (by simp) (Z9 hm (Zk (by omega) (Zk h1.2.1 (Zk hy (Zk (by omega) (Zk (by omega) rfl)))))))⟩
  ·refine .inr ⟨fun i hi => .inr (by rw [Zkv hi h1]; exact hy), Z0 h2 (Z9 (by simp) (Z9 hm (Zk (by omega) (Zk h1.2.1 (Z9 hy rfl)))))⟩
 ·exact .inr ⟨fun j hj => absurd hj (h1 j), Z0 h2 (Zk (by simp) rfl)⟩
theorem e2 (hM : MI L 0 Mx) (k l : Int) (M : List RA) (O : List Int) (s : List R_ii) (n : Nat) (hO : O.length ≤ 100000) (hn : n ≤ s.length) (h1n : n ≤ 100000) : (∃ j : Nat, Zbm L k l j ∧ ¬ Zav M k l = true ∧ ZdQ (ob L j) ∧ ((n < s.length ∧ ZM k l L Mx M O s n s.length N = some (.r1 (ZC M k l (j : Int)) (s.set n ⟨(j : Int), 0⟩) (O ++ [(j : Int)]))) ∨ ZM k l L Mx M O s n s.length N = some (.r2 (ZC M k l (j : Int)) (O ++ [(j : Int)]) (s.take n ++ [⟨(j : Int), 0⟩])))) ∨ ((∀ j, Zbm L k l j → Zav M k l = true ∨ ¬ ZdQ (ob L j)) ∧ ZM k l L Mx M O s n s.length N = some .r0) := by
 unfold ZM
 rcases ZhZ hM k l N with ⟨j, h1, h2⟩ | ⟨h1, y, h2⟩
 ·by_cases hm : Zav M k l = true
  ·exact .inr ⟨fun i hi => .inl hm, Z0 h2 (Z9 (by simp) (Zk hm rfl))⟩
  by_cases hy : ZdQ (ob L j)
  ·refine .inl ⟨j, h1, hm, hy, ?_⟩
   by_cases hc : n + 1 ≤ s.length
   ·exact .inl ⟨hc, Z0 h2 (Z9 (by simp) (Z9 hm (Zk (by omega) (Zk h1.2.1 (Zk hy (Zk (by omega) (Zk hc (Zk (by omega) rfl))))))))⟩
   ·exact .inr (Z0 h2 (Z9 (by simp) (Z9 hm (Zk (by omega) (Zk h1.2.1 (Zk hy (Zk (by omega) (Z9 hc (Zk h1n (Zk hn rfl))))))))))
  ·refine .inr ⟨fun i hi => .inr (by rw [Zkv hi h1]; exact hy), Z0 h2 (Z9 (by simp) (Z9 hm (Zk (by omega) (Zk h1.2.1 (Z9 hy rfl)))))⟩
 ·exact .inr ⟨fun j hj => absurd hj (h1 j), Z0 h2 (Zk (by simp) rfl)⟩
def St (ph v : Nat) (M : List RA) (O : List Int) (S : List R_ii) : graph_objects_walk_3X → Prop
 | .h1m0 v' => ph = 1 ∧ v' = v ∧ M = [] ∧ O = [] ∧ S = []
 | .h1m1 v' O' s M' => ph = 1 ∧ v' = v ∧ M' = M ∧ O' = O ∧ s = S
 | .h1m2 v' O' s n c M' => ph = 1 ∧ v' = v ∧ M' = M ∧ O' = O ∧ s.take n = S ∧ n ≤ s.length ∧ c = s.length
 | .h2m0 v' => ph = 2 ∧ v' = v ∧ M = [] ∧ O = [] ∧ S = []
 | .h2m1 v' O' s M' => ph = 2 ∧ v' = v ∧ M' = M ∧ O' = O ∧ s = S
 | .h2m2 v' O' s n c M' => ph = 2 ∧ v' = v ∧ M' = M ∧ O' = O ∧ s.take n = S ∧ n ≤ s.length ∧ c = s.length
def outO : ZA → List Int
 | .r0 => []
 | .r1 l => l
abbrev stp (L : List Ob) (Mx : List RA) (R : List R_ii) (N : Nat) := Zac L Mx R N
theorem ZlH {M : List RA} {O : List Int} {S : List R_ii} {x : graph_objects_walk_3X} (hM : MI L 0 Mx) (hx : St 1 v M O S x) (hv : v < R.length) (hO : O.length ≤ 100000) (hS : S.length ≤ 100000) :
  ∃ y M' O' S', stp L Mx R N x = some (.inl y) ∧ St 2 v M' O' S' y ∧ ZfU L ZdQ M O S (R.getD v R_ii.z).a0 (R.getD v R_ii.z).a1 M' O' S' := by
 cases x with
 | h1m0 v' =>
  obtain ⟨_, rfl, rfl, rfl, rfl⟩ := hx
  rcases e0 (N := N) hM (R.getD v' R_ii.z).a0 (R.getD v' R_ii.z).a1 with ⟨j, h1, h2, h3⟩ | ⟨h1, h2⟩
  ·refine ⟨.h2m1 v' _ _ _, _, _, _, ?_, ⟨rfl, rfl, rfl, rfl, rfl⟩, .inl ⟨j, h1, by simp [Zav], h2, rfl, rfl, rfl⟩⟩
   show Zal L Mx R N v' = _
   unfold Zal
   exact Zk (by omega) (Z0 h3 rfl)
  ·refine ⟨.h2m0 v', _, _, _, ?_, ⟨rfl, rfl, rfl, rfl, rfl⟩, .inr ⟨h1, rfl, rfl, rfl⟩⟩
   show Zal L Mx R N v' = _
   unfold Zal
   exact Zk (by omega) (Z0 h2 rfl)
 | h1m1 v' O' s M' =>
  obtain ⟨_, rfl, rfl, rfl, rfl⟩ := hx
  rcases e1 (N := N) hM (R.getD v' R_ii.z).a0 (R.getD v' R_ii.z).a1 M' O' s hO hS with ⟨j, h1, hm, h2, h3⟩ | ⟨h1, h2⟩
  ·refine ⟨.h2m1 v' _ _ _, _, _, _, ?_, ⟨rfl, rfl, rfl, rfl, rfl⟩, .inl ⟨j, h1, hm, h2, rfl, rfl, rfl⟩⟩
   show Zam L Mx R N v' _ _ _ = _
   unfold Zam
   exact Zk (by omega) (Z0 h3 rfl)
  ·refine ⟨.h2m1 v' _ _ _, _, _, _, ?_, ⟨rfl, rfl, rfl, rfl, rfl⟩, .inr ⟨h1, rfl, rfl, rfl⟩⟩
   show Zam L Mx R N v' _ _ _ = _
   unfold Zam
   exact Zk (by omega) (Z0 h2 rfl)
 | h1m2 v' O' s n c M' =>
  obtain ⟨_, rfl, rfl, rfl, rfl, hn, rfl⟩ := hx
  have hn' : n ≤ 100000 := by rw [List.length_take] at hS; omega
  rcases e2 (N := N) hM (R.getD v' R_ii.z).a0 (R.getD v' R_ii.z).a1 M' O' s n hO hn hn' with ⟨j, h1, hm, h2, ⟨hc, h3⟩ | h3⟩ | ⟨h1, h2⟩
  ·refine ⟨.h2m2 v' _ _ (n + 1) s.length _, _, _, _, ?_, ⟨rfl, rfl, rfl, rfl, ZkO hc, by simp; omega, by simp⟩, .inl ⟨j, h1, hm, h2, rfl, rfl, rfl⟩⟩
   show ZO L Mx R N v' _ _ _ _ _ = _
   unfold ZO
   exact Zk (by omega) (Z0 h3 rfl)
  ·refine ⟨.h2m1 v' _ _ _, _, _, _, ?_, ⟨rfl, rfl, rfl, rfl, rfl⟩, .inl ⟨j, h1, hm, h2, rfl, rfl, rfl⟩⟩
   show ZO L Mx R N v' _ _ _ _ _ = _
   unfold ZO
   exact Zk (by omega) (Z0 h3 rfl)
  ·refine ⟨.h2m2 v' _ _ _ _ _, _, _, _, ?_, ⟨rfl, rfl, rfl, rfl, rfl, hn, rfl⟩, .inr ⟨h1, rfl, rfl, rfl⟩⟩
   show ZO L Mx R N v' _ _ _ _ _ = _
   unfold ZO
   exact Zk (by omega) (Z0 h2 rfl)
 | h2m0 v' => exact absurd hx.1 (by decide)
 | h2m1 v' O' s M' => exact absurd hx.1 (by decide)
 | h2m2 v' O' s n c M' => exact absurd hx.1 (by decide)
theorem Zm6 {M : List RA} {O : List Int} {S : List R_ii} {x : graph_objects_walk_3X} (hx : St 1 v M O S x) (hv : ¬ v < R.length) :
  ∃ r, stp L Mx R N x = some (.inr r) ∧ outO r = O := by
 cases x with
 | h1m0 v' =>
  obtain ⟨_, rfl, rfl, rfl, rfl⟩ := hx
  refine ⟨.r0, ?_, rfl⟩
  show Zal L Mx R N v' = _
  unfold Zal
  exact Z9 (by omega) rfl
 | h1m1 v' O' s M' =>
  obtain ⟨_, rfl, rfl, rfl, rfl⟩ := hx
  refine ⟨.r1 O', ?_, rfl⟩
  show Zam L Mx R N v' _ _ _ = _
  unfold Zam
  exact Z9 (by omega) rfl
 | h1m2 v' O' s n c M' =>
  obtain ⟨_, rfl, rfl, rfl, rfl, hn, rfl⟩ := hx
  refine ⟨.r1 O', ?_, rfl⟩
  show ZO L Mx R N v' _ _ _ _ _ = _
  unfold ZO
  exact Z9 (by omega) rfl
 | h2m0 v' => exact absurd hx.1 (by decide)
 | h2m1 v' O' s M' => exact absurd hx.1 (by decide)
 | h2m2 v' O' s n c M' => exact absurd hx.1 (by decide)
theorem ZlI {M : List RA} {O : List Int} {x : graph_objects_walk_3X} (hx : St 2 v M O [] x) (hv : v < 100000) :
  ∃ y, stp L Mx R N x = some (.inl y) ∧ St 1 (v + 1) M O [] y := by
 cases x with
 | h1m0 v' => exact absurd hx.1 (by decide)
 | h1m1 v' O' s M' => exact absurd hx.1 (by decide)
 | h1m2 v' O' s n c M' => exact absurd hx.1 (by decide)
 | h2m0 v' =>
  obtain ⟨_, rfl, rfl, rfl, _⟩ := hx
  refine ⟨.h1m0 (v' + 1), ?_, ⟨rfl, rfl, rfl, rfl, rfl⟩⟩
  show Zb8 L Mx R N v' = _
  unfold Zb8
  exact Zk (by omega) rfl
 | h2m1 v' O' s M' =>
  obtain ⟨_, rfl, rfl, rfl, rfl⟩ := hx
  refine ⟨.h1m1 (v' + 1) O' [] M', ?_, ⟨rfl, rfl, rfl, rfl, rfl⟩⟩
  show Zan L Mx R N v' _ _ _ = _
  unfold Zan
  exact Z9 (by simp) (Zk (by omega) rfl)
 | h2m2 v' O' s n c M' =>
  obtain ⟨_, rfl, rfl, rfl, hs, hn, rfl⟩ := hx
  have hn0 : n = 0 := by
   have := congrArg List.length hs
   simp at this
   rcases this with h | h
   ·exact h
   ·subst h; simpa using hn
  refine ⟨.h1m2 (v' + 1) O' s n s.length M', ?_, ⟨rfl, rfl, rfl, rfl, hs, hn, rfl⟩⟩
  show Zao L Mx R N v' _ _ _ _ _ = _
  unfold Zao
  exact Z9 (by omega) (Zk (by omega) rfl)
theorem wf {f : Nat} (h : f < 100000) : IntKind.i64.wrap ((f : Int) + 1) = ((f + 1 : Nat) : Int) ∧ IntKind.i64.wrap (((f + 1 : Nat) : Int) - 1) = (f : Int) := ⟨(w64 (by omega) (by omega)).trans (by omega), (w64 (by omega) (by omega)).trans (by omega)⟩
theorem Zm7 {M : List RA} {O : List Int} {S : List R_ii} {j f : Nat} {x : graph_objects_walk_3X} (hM : MI L 0 Mx) (hx : St 2 v M O (S ++ [⟨(j : Int), (f : Int)⟩]) x) (hj : j < L.length) (hf : f ≤ (ob L j).a7.length) (hF : (ob L j).a7.length ≤ 1000) (hO : O.length ≤ 1000) (hS : S.length ≤ 1000) :
  (f = (ob L j).a7.length → ∃ y, stp L Mx R N x = some (.inl y) ∧ St 2 v M O S y) ∧
  (f < (ob L j).a7.length → ∃ y M' O' S', stp L Mx R N x = some (.inl y) ∧ St 2 v M' O' S' y ∧ ZfU L ZdQ M O (S ++ [⟨(j : Int), ((f + 1 : Nat) : Int)⟩]) (fd L j f).a0 (fd L j f).a1 M' O' S') := by
 obtain ⟨w1, w2⟩ := wf (show f < 100000 by omega)
 have ej : ((j : Int)).toNat = j := rfl
 have ef : ((f : Int)).toNat = f := rfl
 cases x with
 | h1m0 v' => exact absurd hx.1 (by decide)
 | h1m1 v' O' s M' => exact absurd hx.1 (by decide)
 | h1m2 v' O' s n c M' => exact absurd hx.1 (by decide)
 | h2m0 v' => exact absurd hx.2.2.2.2 (by simp)
 | h2m1 v' O' s M' =>
  obtain ⟨_, rfl, rfl, rfl, hs⟩ := hx
  subst hs
  have hl : (S ++ [(⟨(j : Int), (f : Int)⟩ : R_ii)]).length = S.length + 1 := by simp
  have hl' : (S ++ [(⟨(j : Int), (f : Int)⟩ : R_ii)]).length - 1 = S.length := by simp
  have hg : (S ++ [(⟨(j : Int), (f : Int)⟩ : R_ii)]).getD S.length R_ii.z = ⟨(j : Int), (f : Int)⟩ := by simp
  have hset : ∀ e : R_ii, (S ++ [(⟨(j : Int), (f : Int)⟩ : R_ii)]).set S.length e = S ++ [e] := fun e => by simp
  constructor
  ·intro hfe
   refine ⟨.h2m2 v' O' (S ++ [⟨(j : Int), (f : Int)⟩]) S.length (S.length + 1) M', ?_, ⟨rfl, rfl, rfl, rfl, by simp, by simp, by simp⟩⟩
   show Zan L Mx R N v' _ _ _ = _
   unfold Zan
   rw [hl', hg, hl]
   exact Zk (by omega) (Zk (by omega) (Zk (by show (0 : Int) ≤ (j : Int); omega) (Zk hj (Zk (by show (f : Int) = (((ob L j).a7.length : Nat) : Int); omega) rfl))))
  ·intro hfl
   have hsz : (S ++ [(⟨(j : Int), ((f + 1 : Nat) : Int)⟩ : R_ii)]).length ≤ 100000 := by simp; omega
   have hstep : ∀ z, ((Zab (fd L j f).a0 (fd L j f).a1 L Mx M' O' (S ++ [⟨(j : Int), ((f + 1 : Nat) : Int)⟩]) N).bind fun r => match r with
     | .r0 => some (.inl (graph_objects_walk_3X.h2m1 v' O' (S ++ [⟨(j : Int), ((f + 1 : Nat) : Int)⟩]) M'))
     | .r1 y0 y1 y2 => some (.inl (graph_objects_walk_3X.h2m1 v' y1 y2 y0))) = z → stp L Mx R N (.h2m1 v' O' (S ++ [⟨(j : Int), (f : Int)⟩]) M') = z := by
    intro z hz
    show Zan L Mx R N v' _ _ _ = _
    unfold Zan
    rw [hl', hg, hl]
    refine Zk (by omega) (Zk (by omega) (Zk (by show (0 : Int) ≤ (j : Int); omega) (Zk hj (Z9 (by show ¬ (f : Int) = (((ob L j).a7.length : Nat) : Int); omega) ?_))))
    show (if (0 : Int) ≤ IntKind.i64.wrap (IntKind.i64.wrap ((f : Int) + 1) - 1) then _ else _) = z
    rw [w1, w2]
    refine Zk (by omega) (Zk hfl ?_)
    rw [hset]
    exact hz
   rcases e1 (N := N) hM (fd L j f).a0 (fd L j f).a1 M' O' (S ++ [⟨(j : Int), ((f + 1 : Nat) : Int)⟩]) (by omega) hsz with ⟨i, h1, hm, h2, h3⟩ | ⟨h1, h2⟩
   ·exact ⟨.h2m1 v' _ _ _, _, _, _, hstep _ (Z0 h3 rfl), ⟨rfl, rfl, rfl, rfl, rfl⟩, .inl ⟨i, h1, hm, h2, rfl, rfl, rfl⟩⟩
   ·exact ⟨.h2m1 v' _ _ _, _, _, _, hstep _ (Z0 h2 rfl), ⟨rfl, rfl, rfl, rfl, rfl⟩, .inr ⟨h1, rfl, rfl, rfl⟩⟩
 | h2m2 v' O' s n c M' =>
  obtain ⟨_, rfl, rfl, rfl, hs, hn, rfl⟩ := hx
  obtain ⟨t1, t2, t3, t4⟩ := ZoW (d := R_ii.z) hs hn
  constructor
  ·intro hfe
   refine ⟨.h2m2 v' O' s (n - 1) s.length M', ?_, ⟨rfl, rfl, rfl, rfl, t3, by omega, rfl⟩⟩
   show Zao L Mx R N v' _ _ _ _ _ = _
   unfold Zao
   rw [t2]
   exact Zk (by omega) (Zk (by omega) (Zk (by omega) (Zk (by show (0 : Int) ≤ (j : Int); omega) (Zk hj (Zk (by show (f : Int) = (((ob L j).a7.length : Nat) : Int); omega) (Zk (by omega) rfl))))))
  ·intro hfl
   have hstep : ∀ z, ((ZM (fd L j f).a0 (fd L j f).a1 L Mx M' O' (s.set (n - 1) ⟨(j : Int), ((f + 1 : Nat) : Int)⟩) n s.length N).bind fun r => match r with
     | .r0 => some (.inl (graph_objects_walk_3X.h2m2 v' O' (s.set (n - 1) ⟨(j : Int), ((f + 1 : Nat) : Int)⟩) n s.length M'))
     | .r1 y0 y1 y2 => some (.inl (graph_objects_walk_3X.h2m2 v' y2 y1 (n + 1) s.length y0))
     | .r2 y0 y1 y2 => some (.inl (graph_objects_walk_3X.h2m1 v' y1 y2 y0))) = z → stp L Mx R N (.h2m2 v' O' s n s.length M') = z := by
    intro z hz
    show Zao L Mx R N v' _ _ _ _ _ = _
    unfold Zao
    rw [t2]
    refine Zk (by omega) (Zk (by omega) (Zk (by omega) (Zk (by show (0 : Int) ≤ (j : Int); omega) (Zk hj (Z9 (by show ¬ (f : Int) = (((ob L j).a7.length : Nat) : Int); omega) ?_)))))
    show (if (0 : Int) ≤ IntKind.i64.wrap (IntKind.i64.wrap ((f : Int) + 1) - 1) then _ else _) = z
    rw [w1, w2]
    exact Zk (by omega) (Zk hfl hz)
   have hsl : (s.set (n - 1) (⟨(j : Int), ((f + 1 : Nat) : Int)⟩ : R_ii)).length = s.length := by simp
   have he := e2 (N := N) hM (fd L j f).a0 (fd L j f).a1 M' O' (s.set (n - 1) ⟨(j : Int), ((f + 1 : Nat) : Int)⟩) n (by omega) (by omega) (by omega)
   rw [hsl] at he
   rcases he with ⟨i, h1, hm, h2, ⟨hc, h3⟩ | h3⟩ | ⟨h1, h2⟩
   ·exact ⟨.h2m2 v' _ _ (n + 1) s.length _, _, _, _, hstep _ (Z0 h3 rfl), ⟨rfl, rfl, rfl, rfl, (ZkO (by omega)).trans (by rw [t4]), by simp; omega, by simp⟩, .inl ⟨i, h1, hm, h2, rfl, rfl, rfl⟩⟩
   ·exact ⟨.h2m1 v' _ _ _, _, _, _, hstep _ (Z0 h3 rfl), ⟨rfl, rfl, rfl, rfl, by rw [t4]⟩, .inl ⟨i, h1, hm, h2, rfl, rfl, rfl⟩⟩
   ·exact ⟨.h2m2 v' _ _ n _ _, _, _, _, hstep _ (Z0 h2 rfl), ⟨rfl, rfl, rfl, rfl, t4 _, by simp; omega, by simp⟩, .inr ⟨h1, rfl, rfl, rfl⟩⟩
structure Met (L : List Ob) (R : List R_ii) (O : List Int) : Prop where
 o : ∀ x ∈ O, ∃ j : Nat, x = (j : Int) ∧ Zbm L (ob L j).a0 (ob L j).a1 j
 c : ∀ j : Nat, (j : Int) ∈ O → ∀ q, q < (ob L j).a7.length → ∀ j', Zbm L (fd L j q).a0 (fd L j q).a1 j' → ZdQ (ob L j') → (j' : Int) ∈ O
 r : ∀ q, q < R.length → ∀ j', Zbm L (R.getD q R_ii.z).a0 (R.getD q R_ii.z).a1 j' → ZdQ (ob L j') → (j' : Int) ∈ O
 g : ∀ T, Gen L ZdQ R T → ∀ j : Nat, (j : Int) ∈ O → T j
 b : O.length ≤ 96
theorem ZrR (hM : MI L 0 Mx) (hF : ∀ j, (ob L j).a7.length ≤ 1000) (hR : R.length ≤ 1000) : ∀ d ph v M O S x f, Inv L ZdQ R 96 v M O S → St ph v M O S x → (ph = 1 ∨ v < R.length) → v ≤ R.length → Zbr L O L.length + ZaP L S + 2 * (R.length - v) + (2 - ph) ≤ d → (ph = 1 ∨ ph = 2) → (ph = 1 → S = []) → (ph = 2 → ∀ j', Zbm L (R.getD v R_ii.z).a0 (R.getD v R_ii.z).a1 j' → ZdQ (ob L j') → (j' : Int) ∈ O) → d < f → ∃ r, Zb3 (stp L Mx R N) f x = some r ∧ Met L R (outO r) := by
 intro d
 induction d using Nat.strongRecOn with
 | ind d ih =>
  intro ph v M O S x f I hx hp hv hd hph hS hcur hf
  obtain ⟨f, rfl⟩ : ∃ j, f = j + 1 := ⟨f - 1, by omega⟩
  have hb := I.b
  have hl := I.l
  rcases hph with rfl | rfl
  ·by_cases h : v < R.length
   ·obtain ⟨y, M', O', S', h1, h2, h3⟩ := ZlH (N := N) hM hx h (by omega) (by omega)
    obtain ⟨I', k1, k2, k3, k4⟩ := Zjw I (fun T hT j hj hy => hT.1 v j h hj hy) h3
    have hO : Zbr L O' L.length + ZaP L S' ≤ Zbr L O L.length + ZaP L S := by
     by_cases e : O' = O
     ·subst e; omega
     ·have := k4 e; omega
    obtain ⟨r, q1, q2⟩ := ih (Zbr L O' L.length + ZaP L S' + 2 * (R.length - v)) (by omega) 2 v M' O' S' y f I' h2 (.inr h) hv (by omega) (.inr rfl) (fun q => by omega) (fun _ => k1) (by omega)
    exact ⟨r, (ZD h1).trans q1, q2⟩
   ·obtain ⟨r, h1, h2⟩ := Zm6 (L := L) (Mx := Mx) (N := N) hx h
    refine ⟨r, Zbb h1, ?_⟩
    rw [h2]
    obtain rfl := hS rfl
    refine ⟨I.o, fun j hj q hq j' h3 h4 => ?_, fun q hq j' h3 h4 => I.r q (by omega) hq j' h3 h4, I.g, by omega⟩
    rcases I.c j hj q hq j' h3 h4 with h5 | ⟨_, h5, _⟩
    ·exact h5
    ·cases h5
  ·have hv' : v < R.length := hp.elim (fun q => by omega) id
   rcases List.eq_nil_or_concat S with rfl | ⟨S0, e, rfl⟩
   ·obtain ⟨y, h1, h2⟩ := ZlI (L := L) (Mx := Mx) (R := R) (N := N) hx (by omega)
    have I' : Inv L ZdQ R 96 (v + 1) M O [] := by
     refine ⟨I.o, I.m, I.s, I.c, fun q h3 h4 j' h5 h6 => ?_, I.g, I.b, I.l⟩
     by_cases hq : q < v
     ·exact I.r q hq h4 j' h5 h6
     ·obtain rfl : q = v := by omega
      exact hcur rfl j' h5 h6
    obtain ⟨r, q1, q2⟩ := ih (Zbr L O L.length + ZaP L [] + 2 * (R.length - (v + 1)) + 1) (by omega) 1 (v + 1) M O [] y f I' h2 (.inl rfl) (by omega) (by omega) (.inl rfl) (fun _ => rfl) (fun q => by omega) (by omega)
    exact ⟨r, (ZD h1).trans q1, q2⟩
   ·rw [List.concat_eq_append] at I hx hd hb hl
    obtain ⟨j, g, rfl, hj, hg⟩ := I.s e (by simp)
    have hjl : j < L.length := by
     obtain ⟨i, e1, e2⟩ := I.o _ hj
     obtain rfl : i = j := by omega
     exact e2.2.1
    rw [List.length_append, List.length_singleton] at hl
    obtain ⟨p1, p2⟩ := Zm7 (N := N) hM hx hjl hg (hF j) (by omega) (by omega)
    by_cases h : g = (ob L j).a7.length
    ·obtain ⟨y, h1, h2⟩ := p1 h
     have hs : ZaP L (S0 ++ [⟨(j : Int), (g : Int)⟩]) = ZaP L S0 + 1 := by
      rw [ZfT]
      show ZaP L S0 + (((ob L j).a7.length + 1 - g) + 0) = _
      omega
     subst h
     obtain ⟨r, q1, q2⟩ := ih (Zbr L O L.length + ZaP L S0 + 2 * (R.length - v)) (by omega) 2 v M O S0 y f (ZpT I) h2 (.inr hv') hv (by omega) (.inr rfl) (fun q => by omega) hcur (by omega)
     exact ⟨r, (ZD h1).trans q1, q2⟩
    ·have hlt : g < (ob L j).a7.length := by omega
     obtain ⟨y, M', O', S', h1, h2, h3⟩ := p2 hlt
     have hT : ∀ T, Gen L ZdQ R T → ∀ j', Zbm L (fd L j g).a0 (fd L j g).a1 j' → ZdQ (ob L j') → T j' := fun T hT j' he hy => hT.2 j g j' (I.g T hT j hj) hlt he hy
     have fin : ∀ tl : List R_ii, S' = S0 ++ ⟨(j : Int), ((g + 1 : Nat) : Int)⟩ :: tl → ZfU L ZdQ M O (S0 ++ [⟨(j : Int), (g : Int)⟩]) (fd L j g).a0 (fd L j g).a1 M' O' (S0 ++ ⟨(j : Int), (g : Int)⟩ :: tl) → ∃ r, Zb3 (stp L Mx R N) (f + 1) x = some r ∧ Met L R (outO r) := by
      intro tl hS' E
      obtain ⟨I1, k1, k2, k3, k4⟩ := Zjw I hT E
      obtain ⟨I2, hs⟩ := ZoV hlt I1 k1
      rw [← hS'] at I2 hs
      have hm : Zbr L O' L.length + ZaP L S' < Zbr L O L.length + ZaP L (S0 ++ [⟨(j : Int), (g : Int)⟩]) := by
       by_cases e : O' = O
       ·subst e; omega
       ·have := k4 e; omega
      obtain ⟨r, q1, q2⟩ := ih (Zbr L O' L.length + ZaP L S' + 2 * (R.length - v)) (by omega) 2 v M' O' S' y f I2 h2 (.inr hv') hv (by omega) (.inr rfl) (fun q => by omega) (fun _ j' e1 e2 => k2 _ (hcur rfl j' e1 e2)) (by omega)
      exact ⟨r, (ZD h1).trans q1, q2⟩
     rcases h3 with ⟨i, a1, a2, a3, rfl, rfl, rfl⟩ | ⟨a1, rfl, rfl, rfl⟩
     ·exact fin [⟨(i : Int), 0⟩] (by simp) (.inl ⟨i, a1, a2, a3, rfl, rfl, by simp⟩)
     ·exact fin [] rfl (.inr ⟨a1, rfl, rfl, rfl⟩)
theorem walk_is (hM : MI L 0 Mx) (hF : ∀ j, (ob L j).a7.length ≤ 1000) (hR : R.length ≤ 1000) (hB : Zbr L [] L.length ≤ 96) (hN : 10000 ≤ N) : ∃ r, Zcd L Mx R N = some r ∧ Met L R (outO r) := by
 refine (fun ⟨r, h1, h2⟩ => ⟨r, (Zc9 (x := graph_objects_walk_3X.h1m0 0) rfl).trans h1, h2⟩) (ZrR (N := N) hM hF hR (Zbr L [] L.length + ZaP L [] + 2 * (R.length - 0) + (2 - 1)) 1 0 [] [] [] (.h1m0 0) N (Zsb hB) ⟨rfl, rfl, rfl, rfl, rfl⟩ (.inl rfl) (Nat.zero_le _) (by omega) (.inl rfl) (fun _ => rfl) (fun q => by omega) (by simp only [ZaP]; omega))
end
end P3
end Pg
end Ev
end Go.Proofs.Ytmcgcapkldpjlaa
/- The walk through all objects: plain. -/
namespace Go.Proofs.Ytmcgcapkldpjlaa
open Go.RowKit
namespace Ev
namespace Pg
set_option linter.unusedVariables false
set_option linter.unusedSimpArgs false
namespace P4
def ZdR (x : Ob) : Prop := True
section
variable {L : List Ob} {Mx : List RA} {R : List R_ii} {N B v : Nat}
theorem e0 (hM : MI L 0 Mx) (k l : Int) : (∃ j : Nat, Zbm L k l j ∧ ZdR (ob L j) ∧ Za7 k l L Mx [] N = some (.r1 (ZC [] k l (j : Int)) [(j : Int)] [⟨(j : Int), 0⟩])) ∨ ((∀ j, Zbm L k l j → Zav [] k l = true ∨ ¬ ZdR (ob L j)) ∧ Za7 k l L Mx [] N = some .r0) := by
 unfold Za7
 rcases ZhZ hM k l N with ⟨j, h1, h2⟩ | ⟨h1, y, h2⟩
 ·by_cases hy : ZdR (ob L j)
  ·refine .inl ⟨j, h1, hy, Z0 h2 (Z9 (by simp) (Z9 (by simp [Zav]) (Zk (by omega) (Zk h1.2.1 rfl))))⟩
  ·exact absurd trivial hy
 ·exact .inr ⟨fun j hj => absurd hj (h1 j), Z0 h2 (Zk (by simp) rfl)⟩
theorem e1 (hM : MI L 0 Mx) (k l : Int) (M : List RA) (O : List Int) (S : List R_ii) (hO : O.length ≤ 100000) (hS : S.length ≤ 100000) : (∃ j : Nat, Zbm L k l j ∧ ¬ Zav M k l = true ∧ ZdR (ob L j) ∧ Zad k l L Mx M O S N = some (.r1 (ZC M k l (j : Int)) (O ++ [(j : Int)]) (S ++ [⟨(j : Int), 0⟩]))) ∨ ((∀ j, Zbm L k l j → Zav M k l = true ∨ ¬ ZdR (ob L j)) ∧ Zad k l L Mx M O S N = some .r0) := by
 unfold Zad
 rcases ZhZ hM k l N with ⟨j, h1, h2⟩ | ⟨h1, y, h2⟩
 ·by_cases hm : Zav M k l = true
  ·exact .inr ⟨fun i hi => .inl hm, Z0 h2 (Z9 (by simp) (Zk hm rfl))⟩
  by_cases hy : ZdR (ob L j)
  ·refine .inl ⟨j, h1, hm, hy, Z0 h2 (Z9 (by simp) (Z9 hm (Zk (by omega) (Zk h1.2.1 (Zk (by omega) (Zk (by omega) rfl))))))⟩
  ·exact absurd trivial hy
 ·exact .inr ⟨fun j hj => absurd hj (h1 j), Z0 h2 (Zk (by simp) rfl)⟩
theorem e2 (hM : MI L 0 Mx) (k l : Int) (M : List RA) (O : List Int) (s : List R_ii) (n : Nat) (hO : O.length ≤ 100000) (hn : n ≤ s.length) (h1n : n ≤ 100000) : (∃ j : Nat, Zbm L k l j ∧ ¬ Zav M k l = true ∧ ZdR (ob L j) ∧ ((n < s.length ∧ ZN k l L Mx M O s n s.length N = some (.r1 (ZC M k l (j : Int)) (s.set n ⟨(j : Int), 0⟩) (O ++ [(j : Int)]))) ∨ ZN k l L Mx M O s n s.length N = some (.r2 (ZC M k l (j : Int)) (O ++ [(j : Int)]) (s.take n ++ [⟨(j : Int), 0⟩])))) ∨ ((∀ j, Zbm L k l j → Zav M k l = true ∨ ¬ ZdR (ob L j)) ∧ ZN k l L Mx M O s n s.length N = some .r0) := by
 unfold ZN
 rcases ZhZ hM k l N with ⟨j, h1, h2⟩ | ⟨h1, y, h2⟩
 ·by_cases hm : Zav M k l = true
  ·exact .inr ⟨fun i hi => .inl hm, Z0 h2 (Z9 (by simp) (Zk hm rfl))⟩
  by_cases hy : ZdR (ob L j)
  ·refine .inl ⟨j, h1, hm, hy, ?_⟩
   by_cases hc : n + 1 ≤ s.length
   ·exact .inl ⟨hc, Z0 h2 (Z9 (by simp) (Z9 hm (Zk (by omega) (Zk h1.2.1 (Zk (by omega) (Zk hc (Zk (by omega) rfl)))))))⟩
   ·exact .inr (Z0 h2 (Z9 (by simp) (Z9 hm (Zk (by omega) (Zk h1.2.1 (Zk (by omega) (Z9 hc (Zk h1n (Zk hn rfl)))))))))
  ·exact absurd trivial hy
 ·exact .inr ⟨fun j hj => absurd hj (h1 j), Z0 h2 (Zk (by simp) rfl)⟩
def St (ph v : Nat) (M : List RA) (O : List Int) (S : List R_ii) : graph_objects_walk_4X → Prop
 | .h1m0 v' => ph = 1 ∧ v' = v ∧ M = [] ∧ O = [] ∧ S = []
 | .h1m1 v' O' s M' => ph = 1 ∧ v' = v ∧ M' = M ∧ O' = O ∧ s = S
 | .h1m2 v' O' s n c M' => ph = 1 ∧ v' = v ∧ M' = M ∧ O' = O ∧ s.take n = S ∧ n ≤ s.length ∧ c = s.length
 | .h2m0 v' => ph = 2 ∧ v' = v ∧ M = [] ∧ O = [] ∧ S = []
 | .h2m1 v' O' s M' => ph = 2 ∧ v' = v ∧ M' = M ∧ O' = O ∧ s = S
 | .h2m2 v' O' s n c M' => ph = 2 ∧ v' = v ∧ M' = M ∧ O' = O ∧ s.take n = S ∧ n ≤ s.length ∧ c = s.length
def outO : ZB → List Int
 | .r0 => []
 | .r1 l => l
abbrev stp (L : List Ob) (Mx : List RA) (R : List R_ii) (N : Nat) := Zae L Mx R N
theorem ZlH {M : List RA} {O : List Int} {S : List R_ii} {x : graph_objects_walk_4X} (hM : MI L 0 Mx) (hx : St 1 v M O S x) (hv : v < R.length) (hO : O.length ≤ 100000) (hS : S.length ≤ 100000) :
  ∃ y M' O' S', stp L Mx R N x = some (.inl y) ∧ St 2 v M' O' S' y ∧ ZfU L ZdR M O S (R.getD v R_ii.z).a0 (R.getD v R_ii.z).a1 M' O' S' := by
 cases x with
 | h1m0 v' =>
  obtain ⟨_, rfl, rfl, rfl, rfl⟩ := hx
  rcases e0 (N := N) hM (R.getD v' R_ii.z).a0 (R.getD v' R_ii.z).a1 with ⟨j, h1, h2, h3⟩ | ⟨h1, h2⟩
  ·refine ⟨.h2m1 v' _ _ _, _, _, _, ?_, ⟨rfl, rfl, rfl, rfl, rfl⟩, .inl ⟨j, h1, by simp [Zav], h2, rfl, rfl, rfl⟩⟩
   show Zap L Mx R N v' = _
   unfold Zap
   exact Zk (by omega) (Z0 h3 rfl)
  ·refine ⟨.h2m0 v', _, _, _, ?_, ⟨rfl, rfl, rfl, rfl, rfl⟩, .inr ⟨h1, rfl, rfl, rfl⟩⟩
   show Zap L Mx R N v' = _
   unfold Zap
   exact Zk (by omega) (Z0 h2 rfl)
 | h1m1 v' O' s M' =>
  obtain ⟨_, rfl, rfl, rfl, rfl⟩ := hx
  rcases e1 (N := N) hM (R.getD v' R_ii.z).a0 (R.getD v' R_ii.z).a1 M' O' s hO hS with ⟨j, h1, hm, h2, h3⟩ | ⟨h1, h2⟩
  ·refine ⟨.h2m1 v' _ _ _, _, _, _, ?_, ⟨rfl, rfl, rfl, rfl, rfl⟩, .inl ⟨j, h1, hm, h2, rfl, rfl, rfl⟩⟩
   show Zaq L Mx R N v' _ _ _ = _
   unfold Zaq
   exact Zk (by omega) (Z0 h3 rfl)
  ·refine ⟨.h2m1 v' _ _ _, _, _, _, ?_, ⟨rfl, rfl, rfl, rfl, rfl⟩, .inr ⟨h1, rfl, rfl, rfl⟩⟩
   show Zaq L Mx R N v' _ _ _ = _
   unfold Zaq
   exact Zk (by omega) (Z0 h2 rfl)
 | h1m2 v' O' s n c M' =>
  obtain ⟨_, rfl, rfl, rfl, rfl, hn, rfl⟩ := hx
  have hn' : n ≤ 100000 := by rw [List.length_take] at hS; omega
  rcases e2 (N := N) hM (R.getD v' R_ii.z).a0 (R.getD v' R_ii.z).a1 M' O' s n hO hn hn' with ⟨j, h1, hm, h2, ⟨hc, h3⟩ | h3⟩ | ⟨h1, h2⟩
  ·refine ⟨.h2m2 v' _ _ (n + 1) s.length _, _, _, _, ?_, ⟨rfl, rfl, rfl, rfl, ZkO hc, by simp; omega, by simp⟩, .inl ⟨j, h1, hm, h2, rfl, rfl, rfl⟩⟩
   show ZQ L Mx R N v' _ _ _ _ _ = _
   unfold ZQ
   exact Zk (by omega) (Z0 h3 rfl)
  ·refine ⟨.h2m1 v' _ _ _, _, _, _, ?_, ⟨rfl, rfl, rfl, rfl, rfl⟩, .inl ⟨j, h1, hm, h2, rfl, rfl, rfl⟩⟩
   show ZQ L Mx R N v' _ _ _ _ _ = _
   unfold ZQ
   exact Zk (by omega) (Z0 h3 rfl)
  ·refine ⟨.h2m2 v' _ _ _ _ _, _, _, _, ?_, ⟨rfl, rfl, rfl, rfl, rfl, hn, rfl⟩, .inr ⟨h1, rfl, rfl, rfl⟩⟩
   show ZQ L Mx R N v' _ _ _ _ _ = _
   unfold ZQ
   exact Zk (by omega) (Z0 h2 rfl)
 | h2m0 v' => exact absurd hx.1 (by decide)
 | h2m1 v' O' s M' => exact absurd hx.1 (by decide)
 | h2m2 v' O' s n c M' => exact absurd hx.1 (by decide)
theorem Zm6 {M : List RA} {O : List Int} {S : List R_ii} {x : graph_objects_walk_4X} (hx : St 1 v M O S x) (hv : ¬ v < R.length) :
  ∃ r, stp L Mx R N x = some (.inr r) ∧ outO r = O := by
 cases x with
 | h1m0 v' =>
  obtain ⟨_, rfl, rfl, rfl, rfl⟩ := hx
  refine ⟨.r0, ?_, rfl⟩
  show Zap L Mx R N v' = _
  unfold Zap
  exact Z9 (by omega) rfl
 | h1m1 v' O' s M' =>
  obtain ⟨_, rfl, rfl, rfl, rfl⟩ := hx
  refine ⟨.r1 O', ?_, rfl⟩
  show Zaq L Mx R N v' _ _ _ = _
  unfold Zaq
  exact Z9 (by omega) rfl
 | h1m2 v' O' s n c M' =>
  obtain ⟨_, rfl, rfl, rfl, rfl, hn, rfl⟩ := hx
  refine ⟨.r1 O', ?_, rfl⟩
  show ZQ L Mx R N v' _ _ _ _ _ = _
  unfold ZQ
  exact Z9 (by omega) rfl
 | h2m0 v' => exact absurd hx.1 (by decide)
 | h2m1 v' O' s M' => exact absurd hx.1 (by decide)
 | h2m2 v' O' s n c M' => exact absurd hx.1 (by decide)
theorem ZlI {M : List RA} {O : List Int} {x : graph_objects_walk_4X} (hx : St 2 v M O [] x) (hv : v < 100000) :
  ∃ y, stp L Mx R N x = some (.inl y) ∧ St 1 (v + 1) M O [] y := by
 cases x with
 | h1m0 v' => exact absurd hx.1 (by decide)
 | h1m1 v' O' s M' => exact absurd hx.1 (by decide)
 | h1m2 v' O' s n c M' => exact absurd hx.1 (by decide)
 | h2m0 v' =>
  obtain ⟨_, rfl, rfl, rfl, _⟩ := hx
  refine ⟨.h1m0 (v' + 1), ?_, ⟨rfl, rfl, rfl, rfl, rfl⟩⟩
  show Zb9 L Mx R N v' = _
  unfold Zb9
  exact Zk (by omega) rfl
 | h2m1 v' O' s M' =>
  obtain ⟨_, rfl, rfl, rfl, rfl⟩ := hx
  refine ⟨.h1m1 (v' + 1) O' [] M', ?_, ⟨rfl, rfl, rfl, rfl, rfl⟩⟩
  show Zar L Mx R N v' _ _ _ = _
  unfold Zar
  exact Z9 (by simp) (Zk (by omega) rfl)
 | h2m2 v' O' s n c M' =>
  obtain ⟨_, rfl, rfl, rfl, hs, hn, rfl⟩ := hx
  have hn0 : n = 0 := by
   have := congrArg List.length hs
   simp at this
   rcases this with h | h
   ·exact h
   ·subst h; simpa using hn
  refine ⟨.h1m2 (v' + 1) O' s n s.length M', ?_, ⟨rfl, rfl, rfl, rfl, hs, hn, rfl⟩⟩
  show Zas L Mx R N v' _ _ _ _ _ = _
  unfold Zas
  exact Z9 (by omega) (Zk (by omega) rfl)
theorem wf {f : Nat} (h : f < 100000) : IntKind.i64.wrap ((f : Int) + 1) = ((f + 1 : Nat) : Int) ∧ IntKind.i64.wrap (((f + 1 : Nat) : Int) - 1) = (f : Int) := ⟨(w64 (by omega) (by omega)).trans (by omega), (w64 (by omega) (by omega)).trans (by omega)⟩
theorem Zm7 {M : List RA} {O : List Int} {S : List R_ii} {j f : Nat} {x : graph_objects_walk_4X} (hM : MI L 0 Mx) (hx : St 2 v M O (S ++ [⟨(j : Int), (f : Int)⟩]) x) (hj : j < L.length) (hf : f ≤ (ob L j).a7.length) (hF : (ob L j).a7.length ≤ 1000) (hO : O.length ≤ 1000) (hS : S.length ≤ 1000) :
  (f = (ob L j).a7.length → ∃ y, stp L Mx R N x = some (.inl y) ∧ St 2 v M O S y) ∧
  (f < (ob L j).a7.length → ∃ y M' O' S', stp L Mx R N x = some (.inl y) ∧ St 2 v M' O' S' y ∧ ZfU L ZdR M O (S ++ [⟨(j : Int), ((f + 1 : Nat) : Int)⟩]) (fd L j f).a0 (fd L j f).a1 M' O' S') := by
 obtain ⟨w1, w2⟩ := wf (show f < 100000 by omega)
 have ej : ((j : Int)).toNat = j := rfl
 have ef : ((f : Int)).toNat = f := rfl
 cases x with
 | h1m0 v' => exact absurd hx.1 (by decide)
 | h1m1 v' O' s M' => exact absurd hx.1 (by decide)
 | h1m2 v' O' s n c M' => exact absurd hx.1 (by decide)
 | h2m0 v' => exact absurd hx.2.2.2.2 (by simp)
 | h2m1 v' O' s M' =>
  obtain ⟨_, rfl, rfl, rfl, hs⟩ := hx
  subst hs
  have hl : (S ++ [(⟨(j : Int), (f : Int)⟩ : R_ii)]).length = S.length + 1 := by simp
  have hl' : (S ++ [(⟨(j : Int), (f : Int)⟩ : R_ii)]).length - 1 = S.length := by simp
  have hg : (S ++ [(⟨(j : Int), (f : Int)⟩ : R_ii)]).getD S.length R_ii.z = ⟨(j : Int), (f : Int)⟩ := by simp
  have hset : ∀ e : R_ii, (S ++ [(⟨(j : Int), (f : Int)⟩ : R_ii)]).set S.length e = S ++ [e] := fun e => by simp
  constructor
  ·intro hfe
   refine ⟨.h2m2 v' O' (S ++ [⟨(j : Int), (f : Int)⟩]) S.length (S.length + 1) M', ?_, ⟨rfl, rfl, rfl, rfl, by simp, by simp, by simp⟩⟩
   show Zar L Mx R N v' _ _ _ = _
   unfold Zar
   rw [hl', hg, hl]
   exact Zk (by omega) (Zk (by omega) (Zk (by show (0 : Int) ≤ (j : Int); omega) (Zk hj (Zk (by show (f : Int) = (((ob L j).a7.length : Nat) : Int); omega) rfl))))
  ·intro hfl
   have hsz : (S ++ [(⟨(j : Int), ((f + 1 : Nat) : Int)⟩ : R_ii)]).length ≤ 100000 := by simp; omega
   have hstep : ∀ z, ((Zad (fd L j f).a0 (fd L j f).a1 L Mx M' O' (S ++ [⟨(j : Int), ((f + 1 : Nat) : Int)⟩]) N).bind fun r => match r with
     | .r0 => some (.inl (graph_objects_walk_4X.h2m1 v' O' (S ++ [⟨(j : Int), ((f + 1 : Nat) : Int)⟩]) M'))
     | .r1 y0 y1 y2 => some (.inl (graph_objects_walk_4X.h2m1 v' y1 y2 y0))) = z → stp L Mx R N (.h2m1 v' O' (S ++ [⟨(j : Int), (f : Int)⟩]) M') = z := by
    intro z hz
    show Zar L Mx R N v' _ _ _ = _
    unfold Zar
    rw [hl', hg, hl]
    refine Zk (by omega) (Zk (by omega) (Zk (by show (0 : Int) ≤ (j : Int); omega) (Zk hj (Z9 (by show ¬ (f : Int) = (((ob L j).a7.length : Nat) : Int); omega) ?_))))
    show (if (0 : Int) ≤ IntKind.i64.wrap (IntKind.i64.wrap ((f : Int) + 1) - 1) then _ else _) = z
    rw [w1, w2]
    refine Zk (by omega) (Zk hfl ?_)
    rw [hset]
    exact hz
   rcases e1 (N := N) hM (fd L j f).a0 (fd L j f).a1 M' O' (S ++ [⟨(j : Int), ((f + 1 : Nat) : Int)⟩]) (by omega) hsz with ⟨i, h1, hm, h2, h3⟩ | ⟨h1, h2⟩
   ·exact ⟨.h2m1 v' _ _ _, _, _, _, hstep _ (Z0 h3 rfl), ⟨rfl, rfl, rfl, rfl, rfl⟩, .inl ⟨i, h1, hm, h2, rfl, rfl, rfl⟩⟩
   ·exact ⟨.h2m1 v' _ _ _, _, _, _, hstep _ (Z0 h2 rfl), ⟨rfl, rfl, rfl, rfl, rfl⟩, .inr ⟨h1, rfl, rfl, rfl⟩⟩
 | h2m2 v' O' s n c M' =>
  obtain ⟨_, rfl, rfl, rfl, hs, hn, rfl⟩ := hx
  obtain ⟨t1, t2, t3, t4⟩ := ZoW (d := R_ii.z) hs hn
  constructor
  ·intro hfe
   refine ⟨.h2m2 v' O' s (n - 1) s.length M', ?_, ⟨rfl, rfl, rfl, rfl, t3, by omega, rfl⟩⟩
   show Zas L Mx R N v' _ _ _ _ _ = _
   unfold Zas
   rw [t2]
   exact Zk (by omega) (Zk (by omega) (Zk (by omega) (Zk (by show (0 : Int) ≤ (j : Int); omega) (Zk hj (Zk (by show (f : Int) = (((ob L j).a7.length : Nat) : Int); omega) (Zk (by omega) rfl))))))
  ·intro hfl
   have hstep : ∀ z, ((ZN (fd L j f).a0 (fd L j f).a1 L Mx M' O' (s.set (n - 1) ⟨(j : Int), ((f + 1 : Nat) : Int)⟩) n s.length N).bind fun r => match r with
     | .r0 => some (.inl (graph_objects_walk_4X.h2m2 v' O' (s.set (n - 1) ⟨(j : Int), ((f + 1 : Nat) : Int)⟩) n s.length M'))
     | .r1 y0 y1 y2 => some (.inl (graph_objects_walk_4X.h2m2 v' y2 y1 (n + 1) s.length y0))
     | .r2 y0 y1 y2 => some (.inl (graph_objects_walk_4X.h2m1 v' y1 y2 y0))) = z → stp L Mx R N (.h2m2 v' O' s n s.length M') = z := by
    intro z hz
    show Zas L Mx R N v' _ _ _ _ _ = _
    unfold Zas
    rw [t2]
    refine Zk (by omega) (Zk (by omega) (Zk (by omega) (Zk (by show (0 : Int) ≤ (j : Int); omega) (Zk hj (Z9 (by show ¬ (f : Int) = (((ob L j).a7.length : Nat) : Int); omega) ?_)))))
    show (if (0 : Int) ≤ IntKind.i64.wrap (IntKind.i64.wrap ((f : Int) + 1) - 1) then _ else _) = z
    rw [w1, w2]
    exact Zk (by omega) (Zk hfl hz)
   have hsl : (s.set (n - 1) (⟨(j : Int), ((f + 1 : Nat) : Int)⟩ : R_ii)).length = s.length := by simp
   have he := e2 (N := N) hM (fd L j f).a0 (fd L j f).a1 M' O' (s.set (n - 1) ⟨(j : Int), ((f + 1 : Nat) : Int)⟩) n (by omega) (by omega) (by omega)
   rw [hsl] at he
   rcases he with ⟨i, h1, hm, h2, ⟨hc, h3⟩ | h3⟩ | ⟨h1, h2⟩
   ·exact ⟨.h2m2 v' _ _ (n + 1) s.length _, _, _, _, hstep _ (Z0 h3 rfl), ⟨rfl, rfl, rfl, rfl, (ZkO (by omega)).trans (by rw [t4]), by simp; omega, by simp⟩, .inl ⟨i, h1, hm, h2, rfl, rfl, rfl⟩⟩
   ·exact ⟨.h2m1 v' _ _ _, _, _, _, hstep _ (Z0 h3 rfl), ⟨rfl, rfl, rfl, rfl, by rw [t4]⟩, .inl ⟨i, h1, hm, h2, rfl, rfl, rfl⟩⟩
   ·exact ⟨.h2m2 v' _ _ n _ _, _, _, _, hstep _ (Z0 h2 rfl), ⟨rfl, rfl, rfl, rfl, t4 _, by simp; omega, by simp⟩, .inr ⟨h1, rfl, rfl, rfl⟩⟩
structure Met (L : List Ob) (R : List R_ii) (O : List Int) : Prop where
 o : ∀ x ∈ O, ∃ j : Nat, x = (j : Int) ∧ Zbm L (ob L j).a0 (ob L j).a1 j
 c : ∀ j : Nat, (j : Int) ∈ O → ∀ q, q < (ob L j).a7.length → ∀ j', Zbm L (fd L j q).a0 (fd L j q).a1 j' → ZdR (ob L j') → (j' : Int) ∈ O
 r : ∀ q, q < R.length → ∀ j', Zbm L (R.getD q R_ii.z).a0 (R.getD q R_ii.z).a1 j' → ZdR (ob L j') → (j' : Int) ∈ O
 g : ∀ T, Gen L ZdR R T → ∀ j : Nat, (j : Int) ∈ O → T j
 b : O.length ≤ 96
theorem ZrR (hM : MI L 0 Mx) (hF : ∀ j, (ob L j).a7.length ≤ 1000) (hR : R.length ≤ 1000) : ∀ d ph v M O S x f, Inv L ZdR R 96 v M O S → St ph v M O S x → (ph = 1 ∨ v < R.length) → v ≤ R.length → Zbr L O L.length + ZaP L S + 2 * (R.length - v) + (2 - ph) ≤ d → (ph = 1 ∨ ph = 2) → (ph = 1 → S = []) → (ph = 2 → ∀ j', Zbm L (R.getD v R_ii.z).a0 (R.getD v R_ii.z).a1 j' → ZdR (ob L j') → (j' : Int) ∈ O) → d < f → ∃ r, Zb3 (stp L Mx R N) f x = some r ∧ Met L R (outO r) := by
 intro d
 induction d using Nat.strongRecOn with
 | ind d ih =>
  intro ph v M O S x f I hx hp hv hd hph hS hcur hf
  obtain ⟨f, rfl⟩ : ∃ j, f = j + 1 := ⟨f - 1, by omega⟩
  have hb := I.b
  have hl := I.l
  rcases hph with rfl | rfl
  ·by_cases h : v < R.length
   ·obtain ⟨y, M', O', S', h1, h2, h3⟩ := ZlH (N := N) hM hx h (by omega) (by omega)
    obtain ⟨I', k1, k2, k3, k4⟩ := Zjw I (fun T hT j hj hy => hT.1 v j h hj hy) h3
    have hO : Zbr L O' L.length + ZaP L S' ≤ Zbr L O L.length + ZaP L S := by
     by_cases e : O' = O
     ·subst e; omega
     ·have := k4 e; omega
    obtain ⟨r, q1, q2⟩ := ih (Zbr L O' L.length + ZaP L S' + 2 * (R.length - v)) (by omega) 2 v M' O' S' y f I' h2 (.inr h) hv (by omega) (.inr rfl) (fun q => by omega) (fun _ => k1) (by omega)
    exact ⟨r, (ZD h1).trans q1, q2⟩
   ·obtain ⟨r, h1, h2⟩ := Zm6 (L := L) (Mx := Mx) (N := N) hx h
    refine ⟨r, Zbb h1, ?_⟩
    rw [h2]
    obtain rfl := hS rfl
    refine ⟨I.o, fun j hj q hq j' h3 h4 => ?_, fun q hq j' h3 h4 => I.r q (by omega) hq j' h3 h4, I.g, by omega⟩
    rcases I.c j hj q hq j' h3 h4 with h5 | ⟨_, h5, _⟩
    ·exact h5
    ·cases h5
  ·have hv' : v < R.length := hp.elim (fun q => by omega) id
   rcases List.eq_nil_or_concat S with rfl | ⟨S0, e, rfl⟩
   ·obtain ⟨y, h1, h2⟩ := ZlI (L := L) (Mx := Mx) (R := R) (N := N) hx (by omega)
    have I' : Inv L ZdR R 96 (v + 1) M O [] := by
     refine ⟨I.o, I.m, I.s, I.c, fun q h3 h4 j' h5 h6 => ?_, I.g, I.b, I.l⟩
     by_cases hq : q < v
     ·exact I.r q hq h4 j' h5 h6
     ·obtain rfl : q = v := by omega
      exact hcur rfl j' h5 h6
    obtain ⟨r, q1, q2⟩ := ih (Zbr L O L.length + ZaP L [] + 2 * (R.length - (v + 1)) + 1) (by omega) 1 (v + 1) M O [] y f I' h2 (.inl rfl) (by omega) (by omega) (.inl rfl) (fun _ => rfl) (fun q => by omega) (by omega)
    exact ⟨r, (ZD h1).trans q1, q2⟩
   ·rw [List.concat_eq_append] at I hx hd hb hl
    obtain ⟨j, g, rfl, hj, hg⟩ := I.s e (by simp)
    have hjl : j < L.length := by
     obtain ⟨i, e1, e2⟩ := I.o _ hj
     obtain rfl : i = j := by omega
     exact e2.2.1
    rw [List.length_append, List.length_singleton] at hl
    obtain ⟨p1, p2⟩ := Zm7 (N := N) hM hx hjl hg (hF j) (by omega) (by omega)
    by_cases h : g = (ob L j).a7.length
    ·obtain ⟨y, h1, h2⟩ := p1 h
     have hs : ZaP L (S0 ++ [⟨(j : Int), (g : Int)⟩]) = ZaP L S0 + 1 := by
      rw [ZfT]
      show ZaP L S0 + (((ob L j).a7.length + 1 - g) + 0) = _
      omega
     subst h
     obtain ⟨r, q1, q2⟩ := ih (Zbr L O L.length + ZaP L S0 + 2 * (R.length - v)) (by omega) 2 v M O S0 y f (ZpT I) h2 (.inr hv') hv (by omega) (.inr rfl) (fun q => by omega) hcur (by omega)
     exact ⟨r, (ZD h1).trans q1, q2⟩
    ·have hlt : g < (ob L j).a7.length := by omega
     obtain ⟨y, M', O', S', h1, h2, h3⟩ := p2 hlt
     have hT : ∀ T, Gen L ZdR R T → ∀ j', Zbm L (fd L j g).a0 (fd L j g).a1 j' → ZdR (ob L j') → T j' := fun T hT j' he hy => hT.2 j g j' (I.g T hT j hj) hlt he hy
     have fin : ∀ tl : List R_ii, S' = S0 ++ ⟨(j : Int), ((g + 1 : Nat) : Int)⟩ :: tl → ZfU L ZdR M O (S0 ++ [⟨(j : Int), (g : Int)⟩]) (fd L j g).a0 (fd L j g).a1 M' O' (S0 ++ ⟨(j : Int), (g : Int)⟩ :: tl) → ∃ r, Zb3 (stp L Mx R N) (f + 1) x = some r ∧ Met L R (outO r) := by
      intro tl hS' E
      obtain ⟨I1, k1, k2, k3, k4⟩ := Zjw I hT E
      obtain ⟨I2, hs⟩ := ZoV hlt I1 k1
      rw [← hS'] at I2 hs
      have hm : Zbr L O' L.length + ZaP L S' < Zbr L O L.length + ZaP L (S0 ++ [⟨(j : Int), (g : Int)⟩]) := by
       by_cases e : O' = O
       ·subst e; omega
       ·have := k4 e; omega
      obtain ⟨r, q1, q2⟩ := ih (Zbr L O' L.length + ZaP L S' + 2 * (R.length - v)) (by omega) 2 v M' O' S' y f I2 h2 (.inr hv') hv (by omega) (.inr rfl) (fun q => by omega) (fun _ j' e1 e2 => k2 _ (hcur rfl j' e1 e2)) (by omega)
      exact ⟨r, (ZD h1).trans q1, q2⟩
     rcases h3 with ⟨i, a1, a2, a3, rfl, rfl, rfl⟩ | ⟨a1, rfl, rfl, rfl⟩
     ·exact fin [⟨(i : Int), 0⟩] (by simp) (.inl ⟨i, a1, a2, a3, rfl, rfl, by simp⟩)
     ·exact fin [] rfl (.inr ⟨a1, rfl, rfl, rfl⟩)
theorem walk_is (hM : MI L 0 Mx) (hF : ∀ j, (ob L j).a7.length ≤ 1000) (hR : R.length ≤ 1000) (hB : Zbr L [] L.length ≤ 96) (hN : 10000 ≤ N) : ∃ r, Zcg L Mx R N = some r ∧ Met L R (outO r) := by
 refine (fun ⟨r, h1, h2⟩ => ⟨r, (Zc9 (x := graph_objects_walk_4X.h1m0 0) rfl).trans h1, h2⟩) (ZrR (N := N) hM hF hR (Zbr L [] L.length + ZaP L [] + 2 * (R.length - 0) + (2 - 1)) 1 0 [] [] [] (.h1m0 0) N (Zsb hB) ⟨rfl, rfl, rfl, rfl, rfl⟩ (.inl rfl) (Nat.zero_le _) (by omega) (.inl rfl) (fun _ => rfl) (fun q => by omega) (by simp only [ZaP]; omega))
end
end P4
end Pg
end Ev
end Go.Proofs.Ytmcgcapkldpjlaa
/- The law: plain. -/
namespace Go.Proofs.Ytmcgcapkldpjlaa
open Go.RowKit
namespace Ev
namespace Pg
set_option linter.unusedVariables false
set_option linter.unusedSimpArgs false
def rf (L : List Ob) (O : List Int) : List R_ii := O.map fun x => ⟨(ob L x.toNat).a0, (ob L x.toNat).a1⟩
theorem Zsv {L : List Ob} {Mx : List RA} {N : Nat} {O : List Int} (h : ∀ x ∈ O, ∃ j : Nat, x = (j : Int) ∧ j < L.length) (hO : O.length ≤ 1000) : ∀ d i f, i + d = O.length → 1 ≤ i → d < f → Zb3 (ZaR L Mx O N) f (.h1m1 ((rf L O).take i) i) = some (.r1 (rf L O)) := by
 have hl : (rf L O).length = O.length := by simp [rf]
 intro d
 induction d with
 | zero =>
  intro i f hi h1 hf
  obtain ⟨f, rfl⟩ : ∃ j, f = j + 1 := ⟨f - 1, by omega⟩
  refine Zbb ?_
  show ZaL L Mx O N _ i = _
  unfold ZaL
  rw [List.take_of_length_le (by omega)]
  exact Z9 (by omega) rfl
 | succ d ih =>
  intro i f hi h1 hf
  obtain ⟨f, rfl⟩ : ∃ j, f = j + 1 := ⟨f - 1, by omega⟩
  have hil : i < O.length := by omega
  obtain ⟨j, e, hj⟩ := h (O.getD i 0) (by rw [show O.getD i 0 = O[i] by simp [hil]]; exact List.getElem_mem hil)
  refine (ZD ?_).trans (ih (i + 1) f (by omega) (by omega) (by omega))
  show ZaL L Mx O N _ i = _
  unfold ZaL
  have ht : (rf L O).take i ++ [(⟨(ob L (O.getD i 0).toNat).a0, (ob L (O.getD i 0).toNat).a1⟩ : R_ii)] = (rf L O).take (i + 1) := by
   have hil' : i < (rf L O).length := by omega
   rw [← Zrq hil' R_ii.z]
   congr 2
   simp [rf, hil]
  rw [← ht]
  exact Zk (by omega) (Zk (by omega) (Zk (by rw [e]; exact hj) (Zk (by rw [List.length_take]; omega) (Zk (by omega) rfl))))
theorem ZpU {L : List Ob} {Mx : List RA} {N : Nat} {O : List Int} (h : ∀ x ∈ O, ∃ j : Nat, x = (j : Int) ∧ j < L.length) (hO : O.length ≤ 1000) (hN : 2000 ≤ N) : (O = [] ∧ Zba L Mx O N = some .r0) ∨ (O ≠ [] ∧ Zba L Mx O N = some (.r1 (rf L O))) := by
 obtain ⟨n, rfl⟩ : ∃ n, N = n + 1 := ⟨N - 1, by omega⟩
 have hg : Zba L Mx O (n + 1) = Zb3 (ZaR L Mx O (n + 1)) (n + 1) .h1m0 := Zc9 rfl
 rw [hg]
 cases O with
 | nil =>
  refine .inl ⟨rfl, Zbb ?_⟩
  show ZaK L Mx [] (n + 1) = _
  unfold ZaK
  exact Z9 (by simp) rfl
 | cons x O =>
  obtain ⟨j, e, hj⟩ := h x (by simp)
  refine .inr ⟨by simp, (ZD (y := .h1m1 ((rf L (x :: O)).take 1) 1) ?_).trans (Zsv h hO O.length 1 n (by simp; omega) (Nat.le_refl _) (by simp at hO; omega))⟩
  show ZaK L Mx (x :: O) (n + 1) = _
  unfold ZaK
  exact Zk (by rw [List.length_cons]; omega) (Zk (by show (0 : Int) ≤ x; omega) (Zk (by show x.toNat < L.length; rw [e]; exact hj) rfl))
structure Few (L : List Ob) : Prop where
 l : L.length ≤ 12
 f : ∀ j, (ob L j).a7.length ≤ 6
theorem ZoX {L : List Ob} (h : Few L) (O : List Int) : ∀ n, Zbr L O n ≤ 8 * n
 | 0 => Nat.le_refl _
 | n + 1 => by
  have ih := ZoX h O n
  have := h.f n
  simp only [Zbr]
  by_cases e : (n : Int) ∈ O
  ·simp only [e, if_true]; omega
  ·simp only [e, if_false]; omega
theorem Zsc (L : List Ob) (Mx : List RA) : Zcf L Mx 100000 = some .r0 := by
 refine (Zc9 (x := graph_objects_refs_2X.h1m0) rfl).trans ?_
 exact Zbb (n := 99999) rfl
theorem ZpV {L : List Ob} (h : Few L) (a b : Int) : ∃ O, P3.Met L [⟨a, b⟩] O ∧ ((O = [] ∧ ZP L a b 100000 = some .r0) ∨ (O ≠ [] ∧ ZP L a b 100000 = some (.r1 (rf L O)))) := by
 have hl := h.l
 obtain ⟨Mx, hM, hi⟩ := ZoU (L := L) (N := 100000) (by omega) (by decide)
 obtain ⟨r, h1, h2⟩ := P3.walk_is (R := [⟨a, b⟩]) (N := 100000) hM (fun j => by have := h.f j; omega) (by simp) (by have := ZoX h [] L.length; omega) (by decide)
 have ho : ∀ x ∈ P3.outO r, ∃ j : Nat, x = (j : Int) ∧ j < L.length := fun x hx => by
  obtain ⟨j, e1, e2⟩ := h2.o x hx
  exact ⟨j, e1, e2.2.1⟩
 refine ⟨P3.outO r, h2, ?_⟩
 unfold ZP
 cases r with
 | r0 => exact .inl ⟨rfl, Z0 hi (Z0 h1 (Z0 (Zsc L Mx) rfl))⟩
 | r1 O =>
  rcases ZpU (Mx := Mx) (N := 100000) ho (by have := h2.b; omega) (by decide) with ⟨e, q⟩ | ⟨e, q⟩
  ·exact .inl ⟨e, Z0 hi (Z0 h1 (Z0 q rfl))⟩
  ·exact .inr ⟨e, Z0 hi (Z0 h1 (Z0 q rfl))⟩
theorem ZrS {L : List Ob} (h : Few L) (a b : Int) : ∃ O, P4.Met L [⟨a, b⟩] O ∧ ((O = [] ∧ ZbE L [⟨a, b⟩] 100000 = some .r0) ∨ (O ≠ [] ∧ ZbE L [⟨a, b⟩] 100000 = some (.r1 (rf L O)))) := by
 have hl := h.l
 obtain ⟨Mx, hM, hi⟩ := ZoU (L := L) (N := 100000) (by omega) (by decide)
 obtain ⟨r, h1, h2⟩ := P4.walk_is (R := [⟨a, b⟩]) (N := 100000) hM (fun j => by have := h.f j; omega) (by simp) (by have := ZoX h [] L.length; omega) (by decide)
 have ho : ∀ x ∈ P4.outO r, ∃ j : Nat, x = (j : Int) ∧ j < L.length := fun x hx => by
  obtain ⟨j, e1, e2⟩ := h2.o x hx
  exact ⟨j, e1, e2.2.1⟩
 refine ⟨P4.outO r, h2, ?_⟩
 unfold ZbE
 cases r with
 | r0 => exact .inl ⟨rfl, Z0 hi (Z0 h1 (Z0 (Zsc L Mx) rfl))⟩
 | r1 O =>
  rcases ZpU (Mx := Mx) (N := 100000) ho (by have := h2.b; omega) (by decide) with ⟨e, q⟩ | ⟨e, q⟩
  ·exact .inl ⟨e, Z0 hi (Z0 h1 (Z0 q rfl))⟩
  ·exact .inr ⟨e, Z0 hi (Z0 h1 (Z0 q rfl))⟩
theorem ZsJ {L : List Ob} {R : List R_ii} {O O' : List Int} (h : P3.Met L R O) (h' : P4.Met L R O') : ∀ j : Nat, (j : Int) ∈ O → (j : Int) ∈ O' :=
 h.g (fun j => (j : Int) ∈ O') ⟨fun q j' hq he _ => h'.r q hq j' he trivial, fun j q j' hj hq he _ => h'.c j hj q hq j' he trivial⟩
structure KOK (L : List Ob) (c : List R_ii) (K : List Ob) (n : Nat) : Prop where
 l : K.length = n
 r : ∀ i, i < n → (ob K i).a0 = (ob L i).a0 ∧ (ob K i).a1 = (ob L i).a1 ∧ (ob K i).a7 = (ob L i).a7
 s : ∀ i, i < n → (ob K i).a5 = 1 → (ob L i).a5 = 1 ∧ ∀ t, t < c.length → ¬ ((c.getD t R_ii.z).a0 = (ob L i).a0 ∧ (c.getD t R_ii.z).a1 = (ob L i).a1)
theorem Zsd (L : List Ob) (c : List R_ii) : KOK L c [] 0 := ⟨rfl, fun i h => by omega, fun i h => by omega⟩
theorem ZlJ {L : List Ob} {c : List R_ii} {K : List Ob} {n : Nat} {x : Ob} (h : KOK L c K n) (h0 : x.a0 = (ob L n).a0) (h1 : x.a1 = (ob L n).a1) (h7 : x.a7 = (ob L n).a7)
  (h5 : x.a5 = 1 → (ob L n).a5 = 1 ∧ ∀ t, t < c.length → ¬ ((c.getD t R_ii.z).a0 = (ob L n).a0 ∧ (c.getD t R_ii.z).a1 = (ob L n).a1)) : KOK L c (K ++ [x]) (n + 1) := by
 have hl := h.l
 have e1 : ∀ i, i < n → ob (K ++ [x]) i = ob K i := fun i hi => ZkZ (by omega)
 have e2 : ob (K ++ [x]) n = x := by
  show (K ++ [x]).getD n _ = x
  rw [← hl]; exact ZnG
 refine ⟨by simp [hl], fun i hi => ?_, fun i hi => ?_⟩
 ·by_cases e : i = n
  ·subst e; rw [e2]; exact ⟨h0, h1, h7⟩
  ·rw [e1 i (by omega)]; exact h.r i (by omega)
 ·by_cases e : i = n
  ·subst e; rw [e2]; exact h5
  ·rw [e1 i (by omega)]; exact h.s i (by omega)
theorem k_few {L K : List Ob} {c : List R_ii} (h : Few L) (k : KOK L c K L.length) : Few K := ⟨by rw [k.l]; exact h.l, fun j => by
 by_cases hj : j < L.length
 ·rw [(k.r j hj).2.2]; exact h.f j
 ·have : ob K j = R_iiiiiiiA.z := ZjK (by have := k.l; omega)
  rw [this]; exact Nat.zero_le _⟩
theorem k_ent {L K : List Ob} {c : List R_ii} (k : KOK L c K L.length) {a b : Int} {j : Nat} (h : Zbm K a b j) : Zbm L a b j := by
 have hl := k.l
 have hj : j < L.length := by have := h.2.1; omega
 have hk : ∀ q, q < L.length → (ZfO K a b q ↔ ZfO L a b q) := fun q hq => by
  have := k.r q hq
  unfold ZfO
  show (ob K q).a0 = a ∧ (ob K q).a1 = b ↔ (ob L q).a0 = a ∧ (ob L q).a1 = b
  rw [this.1, this.2.1]
 exact ⟨h.1, hj, (hk j hj).1 h.2.2.1, fun q hq hkq => h.2.2.2 q hq ((hk q (by omega)).2 hkq)⟩
theorem Zsw {L K : List Ob} {O : List Int} (h : Few L) {a b : Int} (hO : P3.Met L [⟨a, b⟩] O) (k : KOK L (rf L O) K L.length) : ZP K a b 100000 = some .r0 := by
 obtain ⟨O', h1, h2⟩ := ZpV (k_few h k) a b
 have hn : ∀ j : Nat, (j : Int) ∈ O' → False := h1.g (fun _ => False) ⟨fun q j' hq he hy => ?_, fun j q j' hj => hj.elim⟩
 ·rcases h2 with ⟨e, q⟩ | ⟨e, q⟩
  ·exact q
  ·cases O' with
   | nil => exact absurd rfl e
   | cons x O' =>
    obtain ⟨j, e1, _⟩ := h1.o x (by simp)
    exact (hn j (by rw [e1]; simp)).elim
 ·have hq0 : q = 0 := by simp at hq; exact hq
  subst hq0
  have heL := k_ent k he
  obtain ⟨s1, s2⟩ := k.s j' heL.2.1 hy
  have hin : (j' : Int) ∈ O := hO.r 0 (by simp) j' heL s1
  obtain ⟨t, ht, et⟩ := List.getElem_of_mem hin
  refine s2 t (by simp [rf]; exact ht) ?_
  have : (rf L O).getD t R_ii.z = ⟨(ob L j').a0, (ob L j').a1⟩ := by
   simp [rf, ht, et]
  rw [this]; exact ⟨rfl, rfl⟩
section
variable (L0 : List Ob) (a b : Int)
abbrev lw := Zx L0 a b 100000
variable {L0 a b}
theorem loop1 {L K : List Ob} (h : Few L) (fin : ∀ K, KOK L [] K L.length → ZP K a b 100000 = some .r0) : ∀ d i f K, i + d = L.length → KOK L [] K i → 2 * d + 1 < f → Zb3 (lw L0 a b) f (.h1m5 L K i) = some (.r0 true) := by
 have hl := h.l
 intro d
 induction d with
 | zero =>
  intro i f K hi k hf
  obtain ⟨f, rfl⟩ : ∃ j, f = j + 2 := ⟨f - 2, by omega⟩
  obtain rfl : i = L.length := by omega
  refine (ZD (n := f + 1) (y := .h2m4 K) ?_).trans (Zbb ?_)
  ·show Zbe L0 a b 100000 L K L.length = _
   unfold Zbe
   exact Z9 (by omega) rfl
  ·show ZbP L0 a b 100000 K = _
   unfold ZbP
   exact Z0 (fin K k) rfl
 | succ d ih =>
  intro i f K hi k hf
  obtain ⟨f, rfl⟩ : ∃ j, f = j + 2 := ⟨f - 2, by omega⟩
  have hk := k.l
  refine (ZD (n := f + 1) (y := .h3m4 L K i (ob L i).a0 (ob L i).a1 (ob L i).a2 (ob L i).a3 (ob L i).a4 (ob L i).a5 (ob L i).a6 (ob L i).a7) ?_).trans ((ZD (n := f) ?_).trans (ih (i + 1) f (K ++ [⟨(ob L i).a0, (ob L i).a1, (ob L i).a2, (ob L i).a3, (ob L i).a4, (ob L i).a5, (ob L i).a6, (ob L i).a7⟩]) (by omega) (ZlJ k rfl rfl rfl fun q => ⟨q, fun t ht => by cases ht⟩) (by omega)))
  ·show Zbe L0 a b 100000 L K i = _
   unfold Zbe
   exact Zk (by omega) rfl
  ·show ZbR L0 a b 100000 L K i _ _ _ _ _ _ _ _ = _
   unfold ZbR
   exact Zk (by omega) (Zk (by omega) rfl)
theorem loop2 {L K : List Ob} {m : List R_ii} (h : Few L) (fin : ∀ K, KOK L [] K L.length → ZP K a b 100000 = some .r0) : ∀ d i f K, i + d = L.length → KOK L [] K i → 2 * d + 1 < f → Zb3 (lw L0 a b) f (.h1m6 L m K i) = some (.r0 true) := by
 have hl := h.l
 intro d
 induction d with
 | zero =>
  intro i f K hi k hf
  obtain ⟨f, rfl⟩ : ∃ j, f = j + 2 := ⟨f - 2, by omega⟩
  obtain rfl : i = L.length := by omega
  refine (ZD (n := f + 1) (y := .h2m5 m K) ?_).trans (Zbb ?_)
  ·show Zbf L0 a b 100000 L m K L.length = _
   unfold Zbf
   exact Z9 (by omega) rfl
  ·show ZbQ L0 a b 100000 m K = _
   unfold ZbQ
   exact Z0 (fin K k) rfl
 | succ d ih =>
  intro i f K hi k hf
  obtain ⟨f, rfl⟩ : ∃ j, f = j + 2 := ⟨f - 2, by omega⟩
  have hk := k.l
  refine (ZD (n := f + 1) (y := .h3m5 L m K i (ob L i).a0 (ob L i).a1 (ob L i).a2 (ob L i).a3 (ob L i).a4 (ob L i).a5 (ob L i).a6 (ob L i).a7) ?_).trans ((ZD (n := f) ?_).trans (ih (i + 1) f (K ++ [⟨(ob L i).a0, (ob L i).a1, (ob L i).a2, (ob L i).a3, (ob L i).a4, (ob L i).a5, (ob L i).a6, (ob L i).a7⟩]) (by omega) (ZlJ k rfl rfl rfl fun q => ⟨q, fun t ht => by cases ht⟩) (by omega)))
  ·show Zbf L0 a b 100000 L m K i = _
   unfold Zbf
   exact Zk (by omega) rfl
  ·show ZbS L0 a b 100000 L m K i _ _ _ _ _ _ _ _ = _
   unfold ZbS
   exact Zk (by omega) (Zk (by omega) rfl)
def okS (c : List R_ii) (L : List Ob) (i q : Nat) (s : Int) : Prop := s = 1 → (ob L i).a5 = 1 ∧ ∀ t, t < q → ¬ ((c.getD t R_ii.z).a0 = (ob L i).a0 ∧ (c.getD t R_ii.z).a1 = (ob L i).a1)
theorem ZoY {c : List R_ii} {L : List Ob} {i q : Nat} {s : Int} (h : okS c L i q s) (hn : ¬ ((c.getD q R_ii.z).a0 = (ob L i).a0 ∧ (c.getD q R_ii.z).a1 = (ob L i).a1)) : okS c L i (q + 1) s := fun e => ⟨(h e).1, fun t ht => by
 by_cases e' : t = q
 ·subst e'; exact hn
 ·exact (h e).2 t (by omega)⟩
theorem in7 {L K : List Ob} {c m : List R_ii} {i : Nat} (hc : c.length ≤ 1000) (hK : K.length ≤ 1000) (hi : i ≤ 1000) : ∀ d q f s, q + d = c.length → okS c L i q s → ∃ s', okS c L i c.length s' ∧ Zb3 (lw L0 a b) (f + (d + 1)) (.h3m7 L c m K i q (ob L i).a0 (ob L i).a1 (ob L i).a2 (ob L i).a3 (ob L i).a4 s (ob L i).a6 (ob L i).a7) = Zb3 (lw L0 a b) f (.h1m8 L c m (K ++ [⟨(ob L i).a0, (ob L i).a1, (ob L i).a2, (ob L i).a3, (ob L i).a4, s', (ob L i).a6, (ob L i).a7⟩]) (i + 1)) := by
 intro d
 induction d with
 | zero =>
  intro q f s hq hs
  obtain rfl : q = c.length := by omega
  refine ⟨s, hs, ZD ?_⟩
  show Za9 L0 a b 100000 L c m K i _ _ _ _ _ _ _ _ _ = _
  unfold Za9
  exact Z9 (by omega) (Zk (by omega) (Zk (by omega) rfl))
 | succ d ih =>
  intro q f s hq hs
  by_cases hm : (c.getD q R_ii.z).a0 = (ob L i).a0 ∧ (c.getD q R_ii.z).a1 = (ob L i).a1
  ·obtain ⟨s', h1, h2⟩ := ih (q + 1) f 2 (by omega) (fun e => by omega)
   refine ⟨s', h1, (ZD (n := f + (d + 1)) ?_).trans h2⟩
   show Za9 L0 a b 100000 L c m K i _ _ _ _ _ _ _ _ _ = _
   unfold Za9
   exact Zk (by omega) (Zk hm (Zk (by omega) rfl))
  ·obtain ⟨s', h1, h2⟩ := ih (q + 1) f s (by omega) (ZoY hs hm)
   refine ⟨s', h1, (ZD (n := f + (d + 1)) ?_).trans h2⟩
   show Za9 L0 a b 100000 L c m K i _ _ _ _ _ _ _ _ _ = _
   unfold Za9
   exact Zk (by omega) (Z9 hm (Zk (by omega) rfl))
theorem in3 {L : List Ob} {c m : List R_ii} (hc : c.length ≤ 1000) : ∀ d q f s, q + d = c.length → okS c L 0 q s → ∃ s', okS c L 0 c.length s' ∧ Zb3 (lw L0 a b) (f + (d + 1)) (.h3m3 L c m q (ob L 0).a0 (ob L 0).a1 (ob L 0).a2 (ob L 0).a3 (ob L 0).a4 s (ob L 0).a6 (ob L 0).a7) = Zb3 (lw L0 a b) f (.h1m8 L c m [⟨(ob L 0).a0, (ob L 0).a1, (ob L 0).a2, (ob L 0).a3, (ob L 0).a4, s', (ob L 0).a6, (ob L 0).a7⟩] 1) := by
 intro d
 induction d with
 | zero =>
  intro q f s hq hs
  obtain rfl : q = c.length := by omega
  refine ⟨s, hs, ZD ?_⟩
  show Za8 L0 a b 100000 L c m _ _ _ _ _ _ _ _ _ = _
  unfold Za8
  exact Z9 (by omega) rfl
 | succ d ih =>
  intro q f s hq hs
  by_cases hm : (c.getD q R_ii.z).a0 = (ob L 0).a0 ∧ (c.getD q R_ii.z).a1 = (ob L 0).a1
  ·obtain ⟨s', h1, h2⟩ := ih (q + 1) f 2 (by omega) (fun e => by omega)
   refine ⟨s', h1, (ZD (n := f + (d + 1)) ?_).trans h2⟩
   show Za8 L0 a b 100000 L c m _ _ _ _ _ _ _ _ _ = _
   unfold Za8
   exact Zk (by omega) (Zk hm (Zk (by omega) rfl))
  ·obtain ⟨s', h1, h2⟩ := ih (q + 1) f s (by omega) (ZoY hs hm)
   refine ⟨s', h1, (ZD (n := f + (d + 1)) ?_).trans h2⟩
   show Za8 L0 a b 100000 L c m _ _ _ _ _ _ _ _ _ = _
   unfold Za8
   exact Zk (by omega) (Z9 hm (Zk (by omega) rfl))
theorem in4 {K : List Ob} {c m : List R_ii} {t : Nat} (hm : m.length ≤ 1000) (ht : t < c.length) (hc : c.length ≤ 1000) : ∀ d q f s, q + d = m.length → (s = true ∨ ∃ q0, q ≤ q0 ∧ q0 < m.length ∧ ((m.getD q0 R_ii.z).a0 = (c.getD t R_ii.z).a0 ∧ (m.getD q0 R_ii.z).a1 = (c.getD t R_ii.z).a1)) → Zb3 (lw L0 a b) (f + (d + 1)) (.h4m3 c m K t s q) = Zb3 (lw L0 a b) f (.h2m7 c m K (t + 1)) := by
 intro d
 induction d with
 | zero =>
  intro q f s hq hs
  rcases hs with rfl | ⟨q0, h1, h2, _⟩
  ·refine ZD ?_
   show Zaf L0 a b 100000 c m K t true q = _
   unfold Zaf
   exact Zk rfl (Z9 (by omega) (Zk (by omega) rfl))
  ·omega
 | succ d ih =>
  intro q f s hq hs
  cases s with
  | true =>
   refine (ZD (n := f + (d + 1)) ?_).trans (ih (q + 1) f true (by omega) (.inl rfl))
   show Zaf L0 a b 100000 c m K t true q = _
   unfold Zaf
   exact Zk rfl (Zk (by omega) (Zk (by omega) rfl))
  | false =>
   by_cases he : (m.getD q R_ii.z).a0 = (c.getD t R_ii.z).a0 ∧ (m.getD q R_ii.z).a1 = (c.getD t R_ii.z).a1
   ·refine (ZD (n := f + (d + 1)) ?_).trans (ih (q + 1) f true (by omega) (.inl rfl))
    show Zaf L0 a b 100000 c m K t false q = _
    unfold Zaf
    exact Z9 (by simp) (Zk (by omega) (Zk ht (Zk he (Zk (by omega) rfl))))
   ·refine (ZD (n := f + (d + 1)) ?_).trans (ih (q + 1) f false (by omega) (.inr ?_))
    ·show Zaf L0 a b 100000 c m K t false q = _
     unfold Zaf
     exact Z9 (by simp) (Zk (by omega) (Zk ht (Z9 he (Zk (by omega) rfl))))
    ·rcases hs with h | ⟨q0, h1, h2, h3⟩
     ·cases h
     ·have : q0 ≠ q := fun e => he (e ▸ h3)
      exact ⟨q0, by omega, h2, h3⟩
theorem loop7 {K : List Ob} {c m : List R_ii} (hm : m.length ≤ 1000) (hc : c.length ≤ 1000) (fin : ZP K a b 100000 = some .r0) (hcm : ∀ t, t < c.length → ∃ q0, q0 < m.length ∧ ((m.getD q0 R_ii.z).a0 = (c.getD t R_ii.z).a0 ∧ (m.getD q0 R_ii.z).a1 = (c.getD t R_ii.z).a1)) : ∀ d t f, t + d = c.length → (m.length + 2) * d < f → Zb3 (lw L0 a b) f (.h2m7 c m K t) = some (.r0 true) := by
 intro d
 induction d with
 | zero =>
  intro t f ht hf
  obtain ⟨f, rfl⟩ : ∃ j, f = j + 1 := ⟨f - 1, by omega⟩
  refine Zbb ?_
  show Zbh L0 a b 100000 c m K t = _
  unfold Zbh
  exact Z9 (by omega) (Z0 fin rfl)
 | succ d ih =>
  intro t f ht hf
  have hmul : (m.length + 2) * (d + 1) = (m.length + 2) * d + (m.length + 2) := Nat.mul_succ ..
  obtain ⟨f, rfl⟩ : ∃ j, f = (j + (m.length + 1)) + 1 := ⟨f - (m.length + 2), by omega⟩
  obtain ⟨q0, h1, h2⟩ := hcm t (by omega)
  refine (ZD (n := f + (m.length + 1)) (y := .h4m3 c m K t false 0) ?_).trans ((in4 hm (by omega) hc m.length 0 f false (by omega) (.inr ⟨q0, Nat.zero_le _, h1, h2⟩)).trans (ih (t + 1) f (by omega) (by omega)))
  show Zbh L0 a b 100000 c m K t = _
  unfold Zbh
  exact Zk (by omega) rfl
theorem loop8 {L : List Ob} {c m : List R_ii} (h : Few L) (hm : m.length ≤ 1000) (hc : c.length ≤ 1000) (fin : ∀ K, KOK L c K L.length → ZP K a b 100000 = some .r0) (hcm : ∀ t, t < c.length → ∃ q0, q0 < m.length ∧ ((m.getD q0 R_ii.z).a0 = (c.getD t R_ii.z).a0 ∧ (m.getD q0 R_ii.z).a1 = (c.getD t R_ii.z).a1)) : ∀ d i f K, i + d = L.length → KOK L c K i → (c.length + 2) * d + (m.length + 2) * c.length + 1 < f → Zb3 (lw L0 a b) f (.h1m8 L c m K i) = some (.r0 true) := by
 have hl := h.l
 intro d
 induction d with
 | zero =>
  intro i f K hi k hf
  obtain ⟨f, rfl⟩ : ∃ j, f = j + 1 := ⟨f - 1, by omega⟩
  obtain rfl : i = L.length := by omega
  refine (ZD (n := f) (y := .h2m7 c m K 0) ?_).trans (loop7 hm hc (fin K k) hcm c.length 0 f (by omega) (by omega))
  show Zbg L0 a b 100000 L c m K L.length = _
  unfold Zbg
  exact Z9 (by omega) rfl
 | succ d ih =>
  intro i f K hi k hf
  have hk := k.l
  have hmul : (c.length + 2) * (d + 1) = (c.length + 2) * d + (c.length + 2) := Nat.mul_succ ..
  obtain ⟨f, rfl⟩ : ∃ j, f = (j + (c.length + 1)) + 1 := ⟨f - (c.length + 2), by omega⟩
  obtain ⟨s', h1, h2⟩ := in7 (L0 := L0) (a := a) (b := b) (L := L) (K := K) (c := c) (m := m) (i := i) hc (by omega) (by omega) c.length 0 f (ob L i).a5 (by omega) (fun e => ⟨e, fun t ht => by omega⟩)
  refine (ZD (n := f + (c.length + 1)) (y := .h3m7 L c m K i 0 (ob L i).a0 (ob L i).a1 (ob L i).a2 (ob L i).a3 (ob L i).a4 (ob L i).a5 (ob L i).a6 (ob L i).a7) ?_).trans (h2.trans (ih (i + 1) f _ (by omega) (ZlJ k rfl rfl rfl h1) (by omega)))
  show Zbg L0 a b 100000 L c m K i = _
  unfold Zbg
  exact Zk (by omega) rfl
end
theorem Zmj (a b : Int) : Zbu a b 100000 = some .r0 := by
 have hi : Zep 100000 = some .r0 := by
  refine (Zc9 (x := graph_indexX.h1m0) rfl).trans ?_
  exact Zbb (n := 99999) rfl
 have hf : ∃ y, ZaM [] a b 100000 = some (.r0 y false) := by
  unfold ZaM
  by_cases hk : a = 2
  ·by_cases hl : b = 0
   ·exact ⟨_, Z9 (fun q => q hk) (Zk ⟨hk, hl⟩ rfl)⟩
   ·exact ⟨_, Z9 (fun q => q hk) (Z9 (fun q => hl q.2) (Z9 (by simp [Zav]) rfl))⟩
  ·exact ⟨_, Zk hk rfl⟩
 obtain ⟨y, hf⟩ := hf
 have hw : Zdj [] [⟨a, b⟩] 100000 = some .r0 := by
  refine (Zc9 (x := graph_objects_walkX.h1m0 0) rfl).trans ?_
  refine (ZD (n := 99999) (y := .h2m0 0) ?_).trans ((ZD (n := 99998) (y := .h1m0 1) ?_).trans (Zbb (n := 99997) ?_))
  ·show ZaY [] [⟨a, b⟩] 100000 0 = _
   unfold ZaY
   refine Zk (by simp) (Z0 (a := .r0) ?_ rfl)
   unfold ZbG
   exact Z0 hf (Zk (by simp) rfl)
  ·show ZbH [] [⟨a, b⟩] 100000 0 = _
   unfold ZbH
   exact Zk (by omega) rfl
  ·show ZaY [] [⟨a, b⟩] 100000 1 = _
   unfold ZaY
   exact Z9 (by simp) rfl
 have hr : ZbU [] 100000 = some .r0 := by
  refine (Zc9 (x := graph_objects_refsX.h1m0) rfl).trans ?_
  exact Zbb (n := 99999) rfl
 unfold Zbu
 exact Z0 hi (Z0 hw (Z0 hr rfl))
theorem Zrs (a b : Int) : Zdr [⟨a, b⟩] 100000 = some .r0 := by
 have hi : Zep 100000 = some .r0 := by
  refine (Zc9 (x := graph_indexX.h1m0) rfl).trans ?_
  exact Zbb (n := 99999) rfl
 have hf : ∃ y, ZaM [] a b 100000 = some (.r0 y false) := by
  unfold ZaM
  by_cases hk : a = 2
  ·by_cases hl : b = 0
   ·exact ⟨_, Z9 (fun q => q hk) (Zk ⟨hk, hl⟩ rfl)⟩
   ·exact ⟨_, Z9 (fun q => q hk) (Z9 (fun q => hl q.2) (Z9 (by simp [Zav]) rfl))⟩
  ·exact ⟨_, Zk hk rfl⟩
 obtain ⟨y, hf⟩ := hf
 have hw : ZcA [] [⟨a, b⟩] 100000 = some .r0 := by
  refine (Zc9 (x := graph_objects_walk_2X.h1m0 0) rfl).trans ?_
  refine (ZD (n := 99999) (y := .h2m0 0) ?_).trans ((ZD (n := 99998) (y := .h1m0 1) ?_).trans (Zbb (n := 99997) ?_))
  ·show ZaJ [] [⟨a, b⟩] 100000 0 = _
   unfold ZaJ
   refine Zk (by simp) (Z0 (a := .r0) ?_ rfl)
   unfold Zby
   exact Z0 hf (Zk (by simp) rfl)
  ·show Zb7 [] [⟨a, b⟩] 100000 0 = _
   unfold Zb7
   exact Zk (by omega) rfl
  ·show ZaJ [] [⟨a, b⟩] 100000 1 = _
   unfold ZaJ
   exact Z9 (by simp) rfl
 have hr : ZbU [] 100000 = some .r0 := by
  refine (Zc9 (x := graph_objects_refsX.h1m0) rfl).trans ?_
  exact Zbb (n := 99999) rfl
 unfold Zdr
 exact Z0 hi (Z0 hw (Z0 hr rfl))
theorem ZpW {v : List Ob} {x : Ob} (h : ∀ j, (ob v j).a7.length ≤ 6) (hx : x.a7.length ≤ 6) : ∀ j, (ob (v ++ [x]) j).a7.length ≤ 6 := fun j => by
 by_cases h1 : j < v.length
 ·rw [show ob (v ++ [x]) j = ob v j from ZkZ h1]; exact h j
 ·by_cases h2 : j = v.length
  ·subst h2; rw [show ob (v ++ [x]) v.length = x from ZnG]; exact hx
  ·rw [show ob (v ++ [x]) j = R_iiiiiiiA.z from ZjK (by simp; omega)]; exact Nat.zero_le _
theorem ZsK (L0 : List Ob) : ∀ d k f v, k + d = 12 → d < f → v.length = k → (∀ j, (ob v j).a7.length ≤ 6) → ∃ l, Zb3 (Zbt L0 100000) f (.h1m1 v k) = some (.r1 l) ∧ k ≤ l.length ∧ Few l := by
 intro d
 induction d with
 | zero =>
  intro k f v hk hf hv h6
  obtain ⟨f, rfl⟩ : ∃ j, f = j + 1 := ⟨f - 1, by omega⟩
  refine ⟨v, Zbb ?_, by omega, ⟨by omega, h6⟩⟩
  show Zbj L0 100000 v k = _
  unfold Zbj
  exact ZsG (fun _ => Z9 (by omega) rfl) (fun _ => rfl)
 | succ d ih =>
  intro k f v hk hf hv h6
  obtain ⟨f, rfl⟩ : ∃ j, f = j + 1 := ⟨f - 1, by omega⟩
  by_cases h : k < L0.length
  ·have go : ∀ x : Ob, x.a7.length ≤ 6 → Zbt L0 100000 (.h1m1 v k) = some (.inl (.h1m1 (v ++ [x]) (k + 1))) → ∃ l, Zb3 (Zbt L0 100000) (f + 1) (.h1m1 v k) = some (.r1 l) ∧ k ≤ l.length ∧ Few l := fun x h7 hx => by
    obtain ⟨l, q1, q2, q3⟩ := ih (k + 1) f (v ++ [x]) (by omega) (by omega) (by simp [hv]) (ZpW h6 h7)
    exact ⟨l, (ZD hx).trans q1, by omega, q3⟩
   by_cases h16 : (6 : Int) < (((L0.getD k R_iiiiiiiA.z).a7.length : Nat) : Int)
   ·refine go ⟨(L0.getD k R_iiiiiiiA.z).a0, (L0.getD k R_iiiiiiiA.z).a1, (L0.getD k R_iiiiiiiA.z).a2, (L0.getD k R_iiiiiiiA.z).a3, (L0.getD k R_iiiiiiiA.z).a4, (L0.getD k R_iiiiiiiA.z).a5, (L0.getD k R_iiiiiiiA.z).a6, ((L0.getD k R_iiiiiiiA.z).a7.take 6)⟩ (by simp; omega) ?_
    show Zbj L0 100000 v k = _
    unfold Zbj
    exact Zk (by omega) (Zk (by omega) (Zk h16 (Zk (by omega) rfl)))
   ·refine go ⟨(L0.getD k R_iiiiiiiA.z).a0, (L0.getD k R_iiiiiiiA.z).a1, (L0.getD k R_iiiiiiiA.z).a2, (L0.getD k R_iiiiiiiA.z).a3, (L0.getD k R_iiiiiiiA.z).a4, (L0.getD k R_iiiiiiiA.z).a5, (L0.getD k R_iiiiiiiA.z).a6, (L0.getD k R_iiiiiiiA.z).a7⟩ (by show (L0.getD k R_iiiiiiiA.z).a7.length ≤ 6; omega) ?_
    show Zbj L0 100000 v k = _
    unfold Zbj
    exact Zk (by omega) (Zk (by omega) (Z9 h16 (Zk (by omega) rfl)))
  ·refine ⟨v, Zbb ?_, by omega, ⟨by omega, h6⟩⟩
   show Zbj L0 100000 v k = _
   unfold Zbj
   exact Z9 (by omega) rfl
theorem ZsL (L0 : List Ob) : Ze4 L0 100000 = some .r0 ∨ ∃ l, Ze4 L0 100000 = some (.r1 l) ∧ 1 ≤ l.length ∧ Few l := by
 have hg : Ze4 L0 100000 = Zb3 (Zbt L0 100000) (99999 + 1) .h1m0 := Zc9 rfl
 rw [hg]
 by_cases h : 0 < L0.length
 ·refine .inr ?_
  have go : ∀ x : Ob, x.a7.length ≤ 6 → Zbt L0 100000 .h1m0 = some (.inl (.h1m1 [x] 1)) → ∃ l, Zb3 (Zbt L0 100000) (99999 + 1) .h1m0 = some (.r1 l) ∧ 1 ≤ l.length ∧ Few l := fun x h7 hx => by
   obtain ⟨l, q1, q2, q3⟩ := ZsK L0 11 1 99999 [x] (by omega) (by omega) rfl (ZpW (v := []) (fun j => by rw [show ob [] j = R_iiiiiiiA.z from ZjK (Nat.zero_le _)]; exact Nat.zero_le _) h7)
   exact ⟨l, (ZD hx).trans q1, q2, q3⟩
  by_cases h16 : (6 : Int) < (((L0.getD 0 R_iiiiiiiA.z).a7.length : Nat) : Int)
  ·refine go ⟨(L0.getD 0 R_iiiiiiiA.z).a0, (L0.getD 0 R_iiiiiiiA.z).a1, (L0.getD 0 R_iiiiiiiA.z).a2, (L0.getD 0 R_iiiiiiiA.z).a3, (L0.getD 0 R_iiiiiiiA.z).a4, (L0.getD 0 R_iiiiiiiA.z).a5, (L0.getD 0 R_iiiiiiiA.z).a6, ((L0.getD 0 R_iiiiiiiA.z).a7.take 6)⟩ (by simp; omega) ?_
   show ZbF L0 100000 = _
   unfold ZbF
   exact Zk (by omega) (Zk h16 rfl)
  ·refine go ⟨(L0.getD 0 R_iiiiiiiA.z).a0, (L0.getD 0 R_iiiiiiiA.z).a1, (L0.getD 0 R_iiiiiiiA.z).a2, (L0.getD 0 R_iiiiiiiA.z).a3, (L0.getD 0 R_iiiiiiiA.z).a4, (L0.getD 0 R_iiiiiiiA.z).a5, (L0.getD 0 R_iiiiiiiA.z).a6, (L0.getD 0 R_iiiiiiiA.z).a7⟩ (by show (L0.getD 0 R_iiiiiiiA.z).a7.length ≤ 6; omega) ?_
   show ZbF L0 100000 = _
   unfold ZbF
   exact Zk (by omega) (Z9 h16 rfl)
 ·refine .inl (Zbb ?_)
  show ZbF L0 100000 = _
  unfold ZbF
  exact Z9 (by omega) rfl
theorem Zkw (L : List Ob) (O : List Int) : (rf L O).length = O.length := by simp [rf]
theorem runs (L0 : List Ob) (a b : Int) : Zh6 L0 a b 100000 = some (.r0 true) := by
 rcases ZsL L0 with h | ⟨l, h, hl1, F⟩
 ·refine (Zc9 (x := law16_GraphClosedX.h1m0) ?_).trans ?_
  ·unfold Zb4
   exact Z0 h (Z0 (Zmj a b) (Z0 (Zrs a b) rfl))
  ·refine (ZD (n := 99999) (y := .h2m0) rfl).trans (Zbb (n := 99998) ?_)
   show ZbO L0 a b 100000 = _
   unfold ZbO
   exact Z0 (Zmj a b) rfl
 ·have hl := F.l
  obtain ⟨O, hO, hc⟩ := ZpV F a b
  obtain ⟨O', hO', hr⟩ := ZrS F a b
  have hb := hO.b
  have hb' := hO'.b
  have hsub := ZsJ hO hO'
  have fin : ∀ K, KOK l (rf l O) K l.length → ZP K a b 100000 = some .r0 := fun K k => Zsw F hO k
  rcases hc with ⟨rfl, hc⟩ | ⟨hne, hc⟩
  ·have k1 : KOK l [] [⟨(ob l 0).a0, (ob l 0).a1, (ob l 0).a2, (ob l 0).a3, (ob l 0).a4, (ob l 0).a5, (ob l 0).a6, (ob l 0).a7⟩] 1 := ZlJ (Zsd l []) rfl rfl rfl fun q => ⟨q, fun t ht => by cases ht⟩
   rcases hr with ⟨_, hr⟩ | ⟨_, hr⟩
   ·refine (Zc9 (x := law16_GraphClosedX.h1m1 l) ?_).trans ?_
    ·unfold Zb4
     exact Z0 h (Z0 hc (Z0 hr rfl))
    ·refine (ZD (n := 99999) (y := .h3m0 l (ob l 0).a0 (ob l 0).a1 (ob l 0).a2 (ob l 0).a3 (ob l 0).a4 (ob l 0).a5 (ob l 0).a6 (ob l 0).a7) ?_).trans ((ZD (n := 99998) rfl).trans (loop1 (K := []) F fin (l.length - 1) 1 99998 _ (by omega) k1 (by omega)))
     show ZbL L0 a b 100000 l = _
     unfold ZbL
     exact Zk (by omega) rfl
   ·refine (Zc9 (x := law16_GraphClosedX.h1m2 l (rf l O')) ?_).trans ?_
    ·unfold Zb4
     exact Z0 h (Z0 hc (Z0 hr rfl))
    ·refine (ZD (n := 99999) (y := .h3m1 l (rf l O') (ob l 0).a0 (ob l 0).a1 (ob l 0).a2 (ob l 0).a3 (ob l 0).a4 (ob l 0).a5 (ob l 0).a6 (ob l 0).a7) ?_).trans ((ZD (n := 99998) rfl).trans (loop2 (K := []) F fin (l.length - 1) 1 99998 _ (by omega) k1 (by omega)))
     show ZbM L0 a b 100000 l _ = _
     unfold ZbM
     exact Zk (by omega) rfl
  ·obtain ⟨x, hx⟩ := List.exists_mem_of_ne_nil O hne
   obtain ⟨j, e1, _⟩ := hO.o x hx
   have hj : (j : Int) ∈ O' := hsub j (by rw [← e1]; exact hx)
   rcases hr with ⟨e, _⟩ | ⟨_, hr⟩
   ·rw [e] at hj; cases hj
   ·have hcl : (rf l O).length ≤ 1000 := by rw [Zkw]; omega
    have hml : (rf l O').length ≤ 1000 := by rw [Zkw]; omega
    refine (Zc9 (x := law16_GraphClosedX.h1m4 l (rf l O) (rf l O')) ?_).trans ?_
    ·unfold Zb4
     exact Z0 h (Z0 hc (Z0 hr rfl))
    ·have hcm : ∀ t, t < (rf l O).length → ∃ q0, q0 < (rf l O').length ∧ (((rf l O').getD q0 R_ii.z).a0 = ((rf l O).getD t R_ii.z).a0 ∧ ((rf l O').getD q0 R_ii.z).a1 = ((rf l O).getD t R_ii.z).a1) := fun t ht => by
      rw [Zkw] at ht
      obtain ⟨i, f1, _⟩ := hO.o O[t] (List.getElem_mem ht)
      have hi : (i : Int) ∈ O' := hsub i (by rw [← f1]; exact List.getElem_mem ht)
      obtain ⟨q0, hq, eq⟩ := List.getElem_of_mem hi
      refine ⟨q0, by rw [Zkw]; exact hq, ?_⟩
      have g1 : (rf l O).getD t R_ii.z = ⟨(ob l i).a0, (ob l i).a1⟩ := by simp [rf, ht, f1]
      have g2 : (rf l O').getD q0 R_ii.z = ⟨(ob l i).a0, (ob l i).a1⟩ := by simp [rf, hq, eq]
      rw [g1, g2]; exact ⟨rfl, rfl⟩
     have c1 : (rf l O).length ≤ 96 := by rw [Zkw]; exact hb
     have c2 : (rf l O').length ≤ 96 := by rw [Zkw]; exact hb'
     have m1 : ((rf l O).length + 2) * (l.length - 1) ≤ 98 * 12 := Nat.mul_le_mul (by omega) (by omega)
     have m2 : ((rf l O').length + 2) * (rf l O).length ≤ 98 * 96 := Nat.mul_le_mul (by omega) c1
     obtain ⟨s', g1, g2⟩ := in3 (L0 := L0) (a := a) (b := b) (L := l) (c := rf l O) (m := rf l O') hcl (rf l O).length 0 (99998 - (rf l O).length) (ob l 0).a5 (by omega) (fun e => ⟨e, fun t ht => by omega⟩)
     have e9 : 99998 - (rf l O).length + ((rf l O).length + 1) = 99999 := by omega
     rw [e9] at g2
     refine (ZD (n := 99999) (y := .h3m3 l (rf l O) (rf l O') 0 (ob l 0).a0 (ob l 0).a1 (ob l 0).a2 (ob l 0).a3 (ob l 0).a4 (ob l 0).a5 (ob l 0).a6 (ob l 0).a7) ?_).trans (g2.trans (loop8 F hml hcl fin hcm (l.length - 1) 1 _ _ (by omega) (ZlJ (Zsd l _) rfl rfl rfl g1) (by omega)))
     show ZbN L0 a b 100000 l _ _ = _
     unfold ZbN
     exact Zk (by omega) rfl
end Pg
end Ev
end Go.Proofs.Ytmcgcapkldpjlaa
/- A region that draws its order, whose first operations only read (and make memory in calls), and whose last ones, in a forced order among themselves, make and write new memory: but these may come up early. -/
namespace Go.Proofs.Ytmcgcapkldpjlaa
open Go.RowKit

section
variable {P : Program}

def Calm (P : Program) (W : World) (o : Oper) (a : Act) (v : Value) : Prop :=
 ∀ w, Below W.heap.size W w → o.quietAt P a (fun w' => Below w.heap.size w w') w v

def YieldsC (P : Program) (ops : Array Oper) (W : World) (o : Oper) (v : Value) (a : Act) : Prop :=
 (Region.wanted o (yielded ops a.tmps) = true ∧ Calm P W o a v) ∨ (Region.wanted o (yielded ops a.tmps) = false ∧ v = undef)
theorem ZnH {a b c : World} (h : Below a.heap.size a b) (k : Below b.heap.size b c) : Below a.heap.size a c := h.trans (k.mono h.size)

def Closed (md : Region.Mode) (ops : Array Oper) (listed : Array Bool) : Prop :=
 ∀ j oj, ops[j]? = some oj → listed.getD j false = true → ∀ e ∈ oj.after, Region.binds md e = true → listed.getD e.on false = true
def ZoZ (md : Region.Mode) (ops : Array Oper) : Nat → Nat → Nat → Bool
 | 0, _, _ => false
 | f + 1, t, i => Region.waitsFor md ops t i || (List.range ops.size).any fun k => Region.waitsFor md ops t k && ZoZ md ops f k i
theorem Closed.waits {md : Region.Mode} {ops : Array Oper} {listed : Array Bool} (h : Closed md ops listed) : ∀ (f t i : Nat), listed.getD t false = true → ZoZ md ops f t i = true → listed.getD i false = true
 | 0, _, _, _, hw => by cases hw
 | f + 1, t, i, ht, hw => by
  simp only [ZoZ, Bool.or_eq_true, List.any_eq_true, Bool.and_eq_true] at hw
  rcases hw with hw | ⟨k, _, hw, hr⟩
  ·obtain ⟨o, ho, e, he, hb, rfl⟩ := Region.waitsFor_spec hw
   exact h t o ho ht e he hb
  ·obtain ⟨o, ho, e, he, hb, rfl⟩ := Region.waitsFor_spec hw
   exact h.waits f e.on i (h t o ho ht e he hb) hr

theorem YieldsC.wpOp {ops : Array Oper} {W : World} {i : Nat} {o : Oper} {v : Value} {a : Act} {w : World} (hi : ops[i]? = some o) (hy : YieldsC P ops W o v a) (hb : Below W.heap.size W w)
  {K : Act → World → Prop} {Q : Exit → Act → World → Prop} (h : ∀ w', Below w.heap.size w w' → K (a.put o.dst v) w') : wpOp P ops Q i K a w := by
 unfold Go.wpOp
 simp only [hi]
 rcases hy with ⟨hw, hv⟩ | ⟨hw, rfl⟩
 ·simp only [hw, if_true]
  exact .inl (Oper.wp_of_quiet (C := fun w' => Below w.heap.size w w') (K := fun a' => a' = a.put o.dst v) (Below.refl _ _) (fun a' w' hw' ha => by subst ha; exact h w' hw')
   ⟨v, fun w1 hw1 => by
    have h1 := hv w1 (ZnH hb hw1)
    unfold Oper.quietAt at h1 ⊢
    generalize (execOp a.eval o).run P w1 = r at *
    cases r with
    | ok n w' =>
     cases n <;> simp only [Oper.quietUpon] at h1 ⊢
     case value u => exact h1
     case skip => exact h1
     case enter f args => exact ⟨h1.1, h1.2.mono fun e w2 ⟨he, hb2⟩ => ⟨he, ZnH hw1 hb2⟩⟩
    | halt x w' => simp only [Oper.quietUpon] at h1, rfl⟩)
 ·simp only [hw, Bool.false_eq_true, if_false]
  exact h w (Below.refl _ _)

end
end Go.Proofs.Ytmcgcapkldpjlaa
/- The law GraphClosed, for every input. -/
namespace Go.Proofs.Ytmcgcapkldpjlaa
open Go.ChangeShapes Go.WideShapes Go.ChangeAt Go.RowKit
namespace Ev
namespace GraphClosed
set_option linter.unusedVariables false
def ZrT (x : R_ii) : Prop := (IntKind.i64.min ≤ x.a0 ∧ x.a0 ≤ IntKind.i64.max) ∧ (IntKind.i64.min ≤ x.a1 ∧ x.a1 ≤ IntKind.i64.max)
theorem el1 {H : Type} {enc : TypeId × Value → H} {w : World} {cs : List Value} (hl : cs.length = 2) (h : Trd enc Try.prog w 25 cs) : ∃ x : R_ii, DecL w cs (E_ii.cel x) ∧ ZrT x := by
 have h0 := Zrn (by kernel_rfl : Try.prog.cellsOf 25 = 2) hl h
 have h1 := Zc8 0 1 2 Try.underlying25 h0 0 (te := 23) (o' := 0) (by kernel_rfl) rfl (by kernel_rfl) (by kernel_rfl) (by decide)
 obtain ⟨x0, e0, b0⟩ := Zgt Try.underlying23 (by kernel_rfl) h1
 have h2 := Zc8 1 1 2 Try.underlying25 h0 1 (te := 3) (o' := 1) (by kernel_rfl) rfl (by kernel_rfl) (by kernel_rfl) (by decide)
 obtain ⟨x1, e1, b1⟩ := Zgt Try.underlying3 (by kernel_rfl) h2
 refine ⟨(⟨x0, x1⟩ : R_ii), ZpM (by rw [hl, Enc.clen]; rfl) (fun j y hy => ?_), ⟨b0, b1⟩⟩
 have := (Zeo (w := w) (k := 0) e0 .i (Zeo (w := w) (k := 1) e1 .i (Zrm (w := w)))) j y hy
 simpa using this
def el0R (x : R_iiiiiiiA) : Prop := (IntKind.i64.min ≤ x.a0 ∧ x.a0 ≤ IntKind.i64.max) ∧ (IntKind.i64.min ≤ x.a1 ∧ x.a1 ≤ IntKind.i64.max) ∧ (IntKind.i64.min ≤ x.a2 ∧ x.a2 ≤ IntKind.i64.max) ∧ (IntKind.i64.min ≤ x.a3 ∧ x.a3 ≤ IntKind.i64.max) ∧ (IntKind.i64.min ≤ x.a4 ∧ x.a4 ≤ IntKind.i64.max) ∧ (IntKind.i64.min ≤ x.a5 ∧ x.a5 ≤ IntKind.i64.max) ∧ (IntKind.i64.min ≤ x.a6 ∧ x.a6 ≤ IntKind.i64.max) ∧ (x.a7.length ≤ 9223372036854775807 ∧ ∀ y ∈ x.a7, ZrT y)
theorem el0 {H : Type} {enc : TypeId × Value → H} {w : World} {cs : List Value} (hl : cs.length = 8) (h : Trd enc Try.prog w 34 cs) : ∃ x : R_iiiiiiiA, DecL w cs (E_iiiiiiiA.cel x) ∧ el0R x := by
 have h0 := Zrn (by kernel_rfl : Try.prog.cellsOf 34 = 8) hl h
 have h1 := Zc8 0 2 8 Try.underlying34 h0 0 (te := 25) (o' := 0) (by kernel_rfl) rfl (by kernel_rfl) (by kernel_rfl) (by decide)
 have h2 := Zc8 0 1 2 Try.underlying25 h1 0 (te := 23) (o' := 0) (by kernel_rfl) rfl (by kernel_rfl) (by kernel_rfl) (by decide)
 obtain ⟨x0, e0, b0⟩ := Zgt Try.underlying23 (by kernel_rfl) h2
 have h3 := Zc8 1 1 2 Try.underlying25 h1 1 (te := 3) (o' := 1) (by kernel_rfl) rfl (by kernel_rfl) (by kernel_rfl) (by decide)
 obtain ⟨x1, e1, b1⟩ := Zgt Try.underlying3 (by kernel_rfl) h3
 have h4 := Zc8 2 5 8 Try.underlying34 h0 1 (te := 32) (o' := 2) (by kernel_rfl) rfl (by kernel_rfl) (by kernel_rfl) (by decide)
 have h5 := Zc8 0 1 5 Try.underlying32 h4 0 (te := 3) (o' := 2) (by kernel_rfl) rfl (by kernel_rfl) (by kernel_rfl) (by decide)
 obtain ⟨x2, e2, b2⟩ := Zgt Try.underlying3 (by kernel_rfl) h5
 have h6 := Zc8 1 1 5 Try.underlying32 h4 1 (te := 3) (o' := 3) (by kernel_rfl) rfl (by kernel_rfl) (by kernel_rfl) (by decide)
 obtain ⟨x3, e3, b3⟩ := Zgt Try.underlying3 (by kernel_rfl) h6
 have h7 := Zc8 2 1 5 Try.underlying32 h4 2 (te := 3) (o' := 4) (by kernel_rfl) rfl (by kernel_rfl) (by kernel_rfl) (by decide)
 obtain ⟨x4, e4, b4⟩ := Zgt Try.underlying3 (by kernel_rfl) h7
 have h8 := Zc8 3 1 5 Try.underlying32 h4 3 (te := 30) (o' := 5) (by kernel_rfl) rfl (by kernel_rfl) (by kernel_rfl) (by decide)
 obtain ⟨x5, e5, b5⟩ := Zgt Try.underlying30 (by kernel_rfl) h8
 have h9 := Zc8 4 1 5 Try.underlying32 h4 4 (te := 3) (o' := 6) (by kernel_rfl) rfl (by kernel_rfl) (by kernel_rfl) (by decide)
 obtain ⟨x6, e6, b6⟩ := Zgt Try.underlying3 (by kernel_rfl) h9
 have h10 := Zc8 7 1 8 Try.underlying34 h0 2 (te := 27) (o' := 7) (by kernel_rfl) rfl (by kernel_rfl) (by kernel_rfl) (by decide)
 obtain ⟨x7, v7, e7, d7, b7⟩ := ZrQ (E := E_ii) (Q := ZrT) Try.underlying27 (by kernel_rfl) (by kernel_rfl) (by decide) (fun _ => el1) h10
 refine ⟨(⟨x0, x1, x2, x3, x4, x5, x6, x7⟩ : R_iiiiiiiA), ZpM (by rw [hl, Enc.clen]; rfl) (fun j y hy => ?_), ⟨b0, b1, b2, b3, b4, b5, b6, b7⟩⟩
 have := (Zeo (w := w) (k := 0) e0 .i (Zeo (w := w) (k := 1) e1 .i (Zeo (w := w) (k := 2) e2 .i (Zeo (w := w) (k := 3) e3 .i (Zeo (w := w) (k := 4) e4 .i (Zeo (w := w) (k := 5) e5 .i (Zeo (w := w) (k := 6) e6 .i (Zeo (w := w) (k := 7) e7 d7 (Zrm (w := w)))))))))) j y hy
 simpa using this
noncomputable def Zsx : List TypeId := (Try.prog.cellTypes Try.prog.depth 25).getD []
theorem own : ownKnob Try.prog.godebug = none := by kernel_rfl
set_option maxRecDepth 100000 in
theorem lifted (os : Os) (started : os.Started) (H : Type) (enc : TypeId × Value → H) :
  ReturnsInHanded {} Try.checked os 3 .any (Rows.graphClosedSpec.pre6 enc Try.prog Try.f3 Rows.graphClosedRow.domain false) (Rows.graphClosedSpec.post enc Try.prog Try.f3 false true false false) := by
 refine Zrc (C := Try.checked) own started (by kernel_rfl) Try.func3 rfl rfl Try.underlying4 ?_ (by kernel_rfl) (by kernel_rfl)
  (ChangeSpec.witness6 (enc := enc) (C := Try.checked) false ⟨#[], #[.slice none 0 0, .agg #[.int .i64 0, .int .i64 0]], []⟩ 8 (by kernel_rfl) (by kernel_rfl) (by kernel_rfl) (by kernel_rfl)) ?_
 ·intro ds hlen
  have hlen : ds.length = 2 := hlen.trans (by kernel_rfl)
  match ds, hlen with
  | [_, _], _ => rfl
 intro W base args ds p hval hA hlt hsz
 rw [Try.params3] at hA hval
 obtain ⟨v0, vs0, d0, ds0, p0, q0, hargs, rfl, rfl, h0, r0⟩ := trodAll_cons hA
 obtain ⟨v1, vs1, d1, ds1, p1, q1, rfl, rfl, rfl, h1, r1⟩ := trodAll_cons r0
 obtain ⟨rfl, rfl, rfl⟩ := trodAll_nil r1
 obtain rfl : args = #[v0, v1] := by cases args; simp_all
 obtain ⟨a0, l0, c0, rfl⟩ := Go.WideShapes.okWide_slice Try.underlying22 (hval 0 22 v0 rfl rfl)
 obtain ⟨L0, u0, e0, D0, n0, m0⟩ := ZnF (E := E_iiiiiiiA) (Q := el0R) Try.underlying22 (by kernel_rfl) (by decide) (fun _ => el0) (ZpN h0)
 obtain rfl : u0 = .slice a0 l0 c0 := by have := e0; simp [Value.cells] at this; exact this.symm
 obtain ⟨cs1, rfl, hl1, hc1⟩ := ZoG (ts := Zsx) (by kernel_rfl) (by kernel_rfl) (by kernel_rfl) (hval 1 25 v1 rfl rfl)
 obtain ⟨x1, D1, m1⟩ := el1 (show cs1.length = 2 from hl1.trans (by kernel_rfl)) (by have q := ZpN h1; simp [Value.cells] at q; exact q)
 exact ZsB (ZjJ L0 x1.a0 x1.a1 100000 _ (Pg.runs L0 x1.a0 x1.a1)) (Zo8 (show VR (ιMk W) (ms E_iiiiiiiA L0) _ from D0.vr) (Zo8 (show VR (ιMk W) (.agg #[Value.int .i64 x1.a0, Value.int .i64 x1.a1]) _ from .aggl D1.vr) Zsn)) rfl
theorem over : Rows.graphClosedRow.holds Try.pinned (OpenSpec.ofChange Rows.graphClosedSpec) :=
 OpenClaim.holds_of_wide 3 Try.f3 rfl rfl rfl rfl rfl rfl rfl ⟨rfl, rfl, rfl, rfl, rfl⟩ rfl rfl rfl rfl rfl (by kernel_rfl) Try.func3 (by kernel_rfl)
  (of_decide_eq_true (by kernel_rfl)) (by unfold Func.isWrapper; first | (rw [if_pos (by decide +kernel)]; kernel_rfl) | (rw [if_neg (by decide +kernel)]; exact ⟨rfl, rfl⟩))
  (fun os started H enc _ => lifted os started H enc)
theorem proved : Rows.GraphClosedSaid := over
#print axioms proved
end GraphClosed
end Ev
end Go.Proofs.Ytmcgcapkldpjlaa
