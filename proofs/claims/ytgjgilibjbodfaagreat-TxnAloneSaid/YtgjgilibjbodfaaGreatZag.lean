/- The law TxnAlone, for every input. -/
import Derived.Test.YtgjgilibjbodfaaGreatZad
import Derived.Test.YtgjgilibjbodfaaGreatZaf
import Derived.Test.YtgjgilibjbodfaaGreatZac
import Derived.StillTail
import Derived.OrdersHeld
import Derived.WideBlind
set_option linter.unusedSimpArgs false
set_option linter.unusedVariables false
/- TxnAlone: the plain law is true. -/
namespace Go.Proofs.YtgjgilibjbodfaaGreat
open Go.RowKit
namespace Ev
set_option linter.unusedVariables false
set_option linter.unusedSimpArgs false
set_option maxRecDepth 100000
namespace Tx
abbrev V0 : List RG := [(⟨(0 : Int), (0 : Int)⟩ : RG), (⟨(2 : Int), (0 : Int)⟩ : RG), (⟨(2 : Int), (0 : Int)⟩ : RG), (⟨(2 : Int), (0 : Int)⟩ : RG), (⟨(2 : Int), (0 : Int)⟩ : RG), (⟨(2 : Int), (0 : Int)⟩ : RG), (⟨(2 : Int), (0 : Int)⟩ : RG), (⟨(2 : Int), (0 : Int)⟩ : RG), (⟨(2 : Int), (0 : Int)⟩ : RG), (⟨(1 : Int), (0 : Int)⟩ : RG), (⟨(1 : Int), (0 : Int)⟩ : RG), (⟨(1 : Int), (0 : Int)⟩ : RG), (⟨(1 : Int), (0 : Int)⟩ : RG), (⟨(1 : Int), (0 : Int)⟩ : RG), (⟨(1 : Int), (0 : Int)⟩ : RG), (⟨(1 : Int), (0 : Int)⟩ : RG), (⟨(1 : Int), (0 : Int)⟩ : RG)]
theorem Zgg {α : Type} {P : α → Prop} {c : Prop} [Decidable c] {a b : α} (h1 : c → P a) (h2 : ¬ c → P b) : P (if c then a else b) := by
 by_cases h : c
 ·rw [if_pos h]; exact h1 h
 ·rw [if_neg h]; exact h2 h
structure J (t i : Nat) (W V : List RG) : Prop where
 lw : W.length = 16
 lv : V.length = 17
 eq : ∀ f, f < 16 → V.getD (f + 1) RG.z = W.getD f RG.z
 tb : t ≤ 10 * i + 10
theorem J.load {t t' i : Nat} {W V : List RG} (j : J t i W V) (h : t' ≤ t + 10) : J t' (i + 1) W V := ⟨j.lw, j.lv, j.eq, by have := j.tb; omega⟩
theorem J.store {t t' i : Nat} {W V : List RG} (j : J t i W V) (h : t' ≤ t + 10) {f : Int} (h1 : 8 ≤ f) (h2 : f ≤ 15) (v : RG) : J t' (i + 1) (W.set f.toNat v) (V.set (1 + f).toNat v) := by
 have lw := j.lw; have lv := j.lv
 refine ⟨by rw [List.length_set]; exact lw, by rw [List.length_set]; exact lv, fun g hg => ?_, by have := j.tb; omega⟩
 rw [ZgF (by omega), ZgF (by omega), show (1 + f).toNat = f.toNat + 1 by omega]
 by_cases e : g = f.toNat
 ·rw [if_pos (by omega), if_pos e]
 ·rw [if_neg (by omega), if_neg e]; exact j.eq g hg
theorem ZY {k : Nat} (h : 8 ≤ k) : ¬ (255 : Int) / 2 ^ k % 2 = 1 := by
 have h1 : (255 : Int) < 2 ^ k := by
  obtain ⟨m, rfl⟩ : ∃ m, k = 8 + m := ⟨k - 8, by omega⟩
  have h2 : (0 : Int) < 2 ^ m := Int.pow_pos (by decide)
  rw [Int.pow_add]
  have : (2 : Int) ^ 8 = 256 := by decide
  rw [this]; omega
 rw [Int.ediv_eq_zero_of_lt (by decide) h1]; decide
theorem Zjs {a0 a1 a2 : Int} {N : Nat} (hN : 1 ≤ N) : ZaX a0 a1 a2 64 N = some .r0 := by
 obtain ⟨n, rfl⟩ : ∃ n, N = n + 1 := ⟨N - 1, by omega⟩
 exact (Zjr (Zk (by decide) rfl)).trans (Zb6 rfl)
def fP (v : Int) (x : Zw) : Prop := x = .h1m0 v ∨ ∃ a b, x = .h1m1 v a b
theorem Zhm {a0 a1 a2 a3 : Int} {L : List RI} {N : Nat} (hL : L.length ≤ 1000) : ∀ (m : Nat) (v : Int) (n : Nat) (x : Zw), v + 1 = m → v < L.length → m < n → fP v x → ∃ y0 y1 y2, Za2 (Zae a0 a1 a2 a3 L N) n x = some (.r0 y0 y1 y2)
 | 0, v, n, x, hv, hl, hn, hx => by
  obtain ⟨n, rfl⟩ : ∃ m, n = m + 1 := ⟨n - 1, by omega⟩
  rcases hx with rfl | ⟨a, b, rfl⟩
  ·exact ⟨_, _, _, Zb6 (show Zaj a0 a1 a2 a3 L N v = _ from Zi (by omega) rfl)⟩
  ·exact ⟨_, _, _, Zb6 (show Zak a0 a1 a2 a3 L N v a b = _ from Zi (by omega) rfl)⟩
 | m + 1, v, n, x, hv, hl, hn, hx => by
  obtain ⟨n, rfl⟩ : ∃ m, n = m + 1 := ⟨n - 1, by omega⟩
  have hw : IntKind.i64.wrap (v - 1) = v - 1 := w64 (by omega) (by omega)
  have hs : ∃ x', Zae a0 a1 a2 a3 L N x = some (.inl x') ∧ fP (v - 1) x' := by
   rcases hx with rfl | ⟨a, b, rfl⟩
   ·show ∃ x', Zaj a0 a1 a2 a3 L N v = some (.inl x') ∧ fP (v - 1) x'
    unfold Zaj
    rw [hw, if_pos (by omega), if_pos (by omega)]
    exact Zgg (P := fun o => ∃ x', o = some (Sum.inl x') ∧ fP (v - 1) x') (fun _ => Zgg (P := fun o => ∃ x', o = some (Sum.inl x') ∧ fP (v - 1) x') (fun _ => Zgg (P := fun o => ∃ x', o = some (Sum.inl x') ∧ fP (v - 1) x') (fun _ => ⟨_, rfl, .inl rfl⟩) fun _ => ⟨_, rfl, .inr ⟨_, _, rfl⟩⟩) fun _ => ⟨_, rfl, .inl rfl⟩) fun _ => ⟨_, rfl, .inl rfl⟩
   ·show ∃ x', Zak a0 a1 a2 a3 L N v a b = some (.inl x') ∧ fP (v - 1) x'
    unfold Zak
    rw [hw, if_pos (by omega), if_pos (by omega)]
    exact Zgg (P := fun o => ∃ x', o = some (Sum.inl x') ∧ fP (v - 1) x') (fun _ => Zgg (P := fun o => ∃ x', o = some (Sum.inl x') ∧ fP (v - 1) x') (fun _ => Zgg (P := fun o => ∃ x', o = some (Sum.inl x') ∧ fP (v - 1) x') (fun _ => ⟨_, rfl, .inr ⟨_, _, rfl⟩⟩) fun _ => ⟨_, rfl, .inr ⟨_, _, rfl⟩⟩) fun _ => ⟨_, rfl, .inr ⟨_, _, rfl⟩⟩) fun _ => ⟨_, rfl, .inr ⟨_, _, rfl⟩⟩
  obtain ⟨x', h1, h2⟩ := hs
  obtain ⟨y0, y1, y2, h3⟩ := Zhm hL m (v - 1) n x' (by omega) (by omega) (by omega) h2
  exact ⟨y0, y1, y2, (Zaw h1).trans h3⟩
theorem Zdf {a0 a1 a2 : Int} {L : List RI} {N : Nat} (hL : L.length ≤ 1000) (hN : 2000 ≤ N) : ∃ y0 y1 y2, ZX a0 a1 a2 64 L N = some (.r0 y0 y1 y2) := by
 obtain ⟨y0, y1, y2, h⟩ := Zhm (a0 := a0) (a1 := a1) (a2 := a2) (a3 := 64) (N := N) hL L.length ((L.length : Int) - 1) N _ (by omega) (by omega) (by omega) (.inl rfl)
 exact ⟨y0, y1, y2, (Zjr (Zk (by decide) <| Zk (by omega) rfl)).trans h⟩
def Sx (i : Nat) : Zd → Prop
 | .h2m1 v1 v2 v3 _ _ _ _ _ v52 v65 => v3 = i ∧ J v1 i v2 v52 ∧ v65.length ≤ i
 | .h2m2 v1 v2 v3 v19 _ _ _ _ _ => v3 = i ∧ J v1 i v2 V0 ∧ v19.length ≤ i
 | .h2m3 v1 v2 v3 v19 _ _ _ _ _ v53 v68 => v3 = i ∧ J v1 i v2 v53 ∧ v68.length ≤ i ∧ v19.length ≤ i
 | .h2m4 v1 v2 v3 _ _ _ _ _ v52 v67 => v3 = i ∧ J v1 i v2 v52 ∧ v67.length ≤ i
 | .h2m5 v1 v2 v3 v19 _ _ _ _ _ _ _ v53 v68 => v3 = i ∧ J v1 i v2 v53 ∧ v68.length ≤ i ∧ v19.length ≤ i
 | .h2m6 v1 v2 v3 _ _ _ _ v52 v67 => v3 = i ∧ J v1 i v2 v52 ∧ v67.length ≤ i
 | _ => False
def Fx : Zd → Prop
 | .h3m0 v0 v2 => v2 = 0 ∧ v0.length = 16 ∧ V0.length = 17 ∧ ∀ f, f < 16 → V0.getD (f + 1) RG.z = v0.getD f RG.z
 | .h3m1 v0 v2 _ v52 _ => v2 = 0 ∧ v0.length = 16 ∧ v52.length = 17 ∧ ∀ f, f < 16 → v52.getD (f + 1) RG.z = v0.getD f RG.z
 | .h3m2 v0 v2 _ _ _ => v2 = 0 ∧ v0.length = 16 ∧ V0.length = 17 ∧ ∀ f, f < 16 → V0.getD (f + 1) RG.z = v0.getD f RG.z
 | .h3m3 v0 v2 _ _ _ _ v53 _ => v2 = 0 ∧ v0.length = 16 ∧ v53.length = 17 ∧ ∀ f, f < 16 → v53.getD (f + 1) RG.z = v0.getD f RG.z
 | .h3m4 v0 v2 _ _ _ v52 _ => v2 = 0 ∧ v0.length = 16 ∧ v52.length = 17 ∧ ∀ f, f < 16 → v52.getD (f + 1) RG.z = v0.getD f RG.z
 | _ => False
theorem ZhW {L0 : List RJ} {N : Nat} {v0 : List RG} (lw : v0.length = 16) (lv : V0.length = 17) (eq : ∀ f, f < 16 → V0.getD (f + 1) RG.z = v0.getD f RG.z) : ∀ (m k n : Nat), k + m = 16 → m < n → Za2 (Zj L0 N) n (.h3m0 v0 k) = some (.r0 true)
 | 0, k, n, hk, hn => by
  obtain ⟨n, rfl⟩ : ∃ m, n = m + 1 := ⟨n - 1, by omega⟩
  exact Zb6 (show Za5 L0 N v0 k = _ from Zi (by omega) rfl)
 | m + 1, k, n, hk, hn => by
  obtain ⟨n, rfl⟩ : ∃ m, n = m + 1 := ⟨n - 1, by omega⟩
  have e := eq k (by omega)
  exact (Zaw (show Za5 L0 N v0 k = _ from Zk (by omega) <| Zk (by omega) <| Zi (fun h => h ⟨congrArg RG.a0 e, congrArg RG.a1 e⟩) rfl)).trans (ZhW lw lv eq m (k + 1) n (by omega) (by omega))
theorem ZhX {L0 : List RJ} {N : Nat} {v0 : List RG} {v17 : Nat} {v52 : List RG} {v65 : List RI} (lw : v0.length = 16) (lv : v52.length = 17) (eq : ∀ f, f < 16 → v52.getD (f + 1) RG.z = v0.getD f RG.z) : ∀ (m k n : Nat), k + m = 16 → m < n → Za2 (Zj L0 N) n (.h3m1 v0 k v17 v52 v65) = some (.r0 true)
 | 0, k, n, hk, hn => by
  obtain ⟨n, rfl⟩ : ∃ m, n = m + 1 := ⟨n - 1, by omega⟩
  exact Zb6 (show Za6 L0 N v0 k v17 v52 v65 = _ from Zi (by omega) rfl)
 | m + 1, k, n, hk, hn => by
  obtain ⟨n, rfl⟩ : ∃ m, n = m + 1 := ⟨n - 1, by omega⟩
  have e := eq k (by omega)
  exact (Zaw (show Za6 L0 N v0 k v17 v52 v65 = _ from Zk (by omega) <| Zk (by omega) <| Zk (by omega) <| Zi (fun h => h ⟨congrArg RG.a0 e, congrArg RG.a1 e⟩) rfl)).trans (ZhX lw lv eq m (k + 1) n (by omega) (by omega))
theorem ZhY {L0 : List RJ} {N : Nat} {v0 : List RG} {v18 : List RH} {v48 : Int} {v49 : Int} (lw : v0.length = 16) (lv : V0.length = 17) (eq : ∀ f, f < 16 → V0.getD (f + 1) RG.z = v0.getD f RG.z) : ∀ (m k n : Nat), k + m = 16 → m < n → Za2 (Zj L0 N) n (.h3m2 v0 k v18 v48 v49) = some (.r0 true)
 | 0, k, n, hk, hn => by
  obtain ⟨n, rfl⟩ : ∃ m, n = m + 1 := ⟨n - 1, by omega⟩
  exact Zb6 (show Za7 L0 N v0 k v18 v48 v49 = _ from Zi (by omega) rfl)
 | m + 1, k, n, hk, hn => by
  obtain ⟨n, rfl⟩ : ∃ m, n = m + 1 := ⟨n - 1, by omega⟩
  have e := eq k (by omega)
  exact (Zaw (show Za7 L0 N v0 k v18 v48 v49 = _ from Zk (by omega) <| Zk (by omega) <| Zi (fun h => h ⟨congrArg RG.a0 e, congrArg RG.a1 e⟩) rfl)).trans (ZhY lw lv eq m (k + 1) n (by omega) (by omega))
theorem ZhZ {L0 : List RJ} {N : Nat} {v0 : List RG} {v17 : Nat} {v18 : List RH} {v49 : Int} {v50 : Int} {v53 : List RG} {v68 : List RI} (lw : v0.length = 16) (lv : v53.length = 17) (eq : ∀ f, f < 16 → v53.getD (f + 1) RG.z = v0.getD f RG.z) : ∀ (m k n : Nat), k + m = 16 → m < n → Za2 (Zj L0 N) n (.h3m3 v0 k v17 v18 v49 v50 v53 v68) = some (.r0 true)
 | 0, k, n, hk, hn => by
  obtain ⟨n, rfl⟩ : ∃ m, n = m + 1 := ⟨n - 1, by omega⟩
  exact Zb6 (show Za8 L0 N v0 k v17 v18 v49 v50 v53 v68 = _ from Zi (by omega) rfl)
 | m + 1, k, n, hk, hn => by
  obtain ⟨n, rfl⟩ : ∃ m, n = m + 1 := ⟨n - 1, by omega⟩
  have e := eq k (by omega)
  exact (Zaw (show Za8 L0 N v0 k v17 v18 v49 v50 v53 v68 = _ from Zk (by omega) <| Zk (by omega) <| Zk (by omega) <| Zi (fun h => h ⟨congrArg RG.a0 e, congrArg RG.a1 e⟩) rfl)).trans (ZhZ lw lv eq m (k + 1) n (by omega) (by omega))
theorem Zia {L0 : List RJ} {N : Nat} {v0 : List RG} {v17 : Nat} {v48 : Int} {v49 : Int} {v52 : List RG} {v67 : List RI} (lw : v0.length = 16) (lv : v52.length = 17) (eq : ∀ f, f < 16 → v52.getD (f + 1) RG.z = v0.getD f RG.z) : ∀ (m k n : Nat), k + m = 16 → m < n → Za2 (Zj L0 N) n (.h3m4 v0 k v17 v48 v49 v52 v67) = some (.r0 true)
 | 0, k, n, hk, hn => by
  obtain ⟨n, rfl⟩ : ∃ m, n = m + 1 := ⟨n - 1, by omega⟩
  exact Zb6 (show Za9 L0 N v0 k v17 v48 v49 v52 v67 = _ from Zi (by omega) rfl)
 | m + 1, k, n, hk, hn => by
  obtain ⟨n, rfl⟩ : ∃ m, n = m + 1 := ⟨n - 1, by omega⟩
  have e := eq k (by omega)
  exact (Zaw (show Za9 L0 N v0 k v17 v48 v49 v52 v67 = _ from Zk (by omega) <| Zk (by omega) <| Zk (by omega) <| Zi (fun h => h ⟨congrArg RG.a0 e, congrArg RG.a1 e⟩) rfl)).trans (Zia lw lv eq m (k + 1) n (by omega) (by omega))
theorem Zjt {L0 : List RJ} {N n : Nat} (hn : 20 < n) : ∀ x, Fx x → Za2 (Zj L0 N) n x = some (.r0 true)
 | .h3m0 _ _, ⟨h1, h2, h3, h4⟩ => by subst h1; exact ZhW h2 h3 h4 16 0 n rfl (by omega)
 | .h3m1 _ _ _ _ _, ⟨h1, h2, h3, h4⟩ => by subst h1; exact ZhX h2 h3 h4 16 0 n rfl (by omega)
 | .h3m2 _ _ _ _ _, ⟨h1, h2, h3, h4⟩ => by subst h1; exact ZhY h2 h3 h4 16 0 n rfl (by omega)
 | .h3m3 _ _ _ _ _ _ _ _, ⟨h1, h2, h3, h4⟩ => by subst h1; exact ZhZ h2 h3 h4 16 0 n rfl (by omega)
 | .h3m4 _ _ _ _ _ _ _, ⟨h1, h2, h3, h4⟩ => by subst h1; exact Zia h2 h3 h4 16 0 n rfl (by omega)
theorem Znn : V0.length = 17 := rfl
theorem ZlB {L0 : List RJ} {N : Nat} (hN : 2000 ≤ N) {v2 : List RG} (j : J 0 0 v2 V0) (hi : 0 ≤ 40) : (0 < 40 ∧ ∃ y, Zj L0 N (.h2m0 v2) = some (.inl y) ∧ Sx (0 + 1) y) ∨ (∃ y, Zj L0 N (.h2m0 v2) = some (.inl y) ∧ Fx y) := by
 have lw := j.lw; have lv := j.lv; have tb := j.tb
 have ef := j.eq (8 + IntKind.u64.wrap (L0.getD 0 RJ.z).a3 % 8).toNat (by omega)
 rw [show (8 + IntKind.u64.wrap (L0.getD 0 RJ.z).a3 % 8).toNat + 1 = (1 + (8 + IntKind.u64.wrap (L0.getD 0 RJ.z).a3 % 8)).toNat by omega] at ef
 by_cases c1 : 0 < L0.length ∧ 0 < 40
 ·obtain ⟨c1, c2⟩ := c1
  refine .inl ⟨c2, ?_⟩
  by_cases c3 : Int.tmod (L0.getD 0 RJ.z).a1 2 = 1
  ·apply Exists.intro
   apply And.intro
   ·show ZU L0 N v2 = _
    unfold ZU
    refine Zk (by omega) ?_
    skip
    refine Zk c3 ?_
    repeat (first | refine Zk (by omega) ?_ | refine Zi (by omega) ?_ | refine Zi (ZY (by omega)) ?_)
    rfl
   ·refine ⟨rfl, j.store (by omega) (by omega) (by omega) _, ?_⟩
    first | (refine ⟨?_, ?_⟩ <;> simp <;> omega) | (simp <;> omega) | (simp; done) | omega
  ·apply Exists.intro
   apply And.intro
   ·show ZU L0 N v2 = _
    unfold ZU
    refine Zk (by omega) ?_
    skip
    refine Zi c3 ?_
    repeat (first | refine Zk (by omega) ?_ | refine Zi (by omega) ?_ | refine Zi (ZY (by omega)) ?_)
    refine Zbf (Zjs (by omega)) ?_
    repeat (first | refine Zk (by omega) ?_ | refine Zi (by omega) ?_ | refine Zi (ZY (by omega)) ?_)
    refine Zi (fun h => h ⟨congrArg RG.a0 ef, congrArg RG.a1 ef⟩) ?_
    rfl
   ·refine ⟨rfl, j.load (by omega), ?_⟩
    first | (refine ⟨?_, ?_⟩ <;> simp <;> omega) | (simp <;> omega) | (simp; done) | omega
 ·refine .inr ?_
  apply Exists.intro
  apply And.intro
  ·show ZU L0 N v2 = _
   unfold ZU
   refine Zi (by omega) ?_
   rfl
  ·exact ⟨rfl, lw, lv, j.eq⟩
theorem ZlC {L0 : List RJ} {N : Nat} (hN : 2000 ≤ N) {v1 : Nat} {v2 : List RG} {v3 : Nat} {v21 : Int} {v23 : Int} {v30 : Nat} {v32 : Int} {v33 : Bool} {v52 : List RG} {v65 : List RI} (j : J v1 v3 v2 v52) (hv65 : v65.length ≤ v3) (hi : v3 ≤ 40) : (v3 < 40 ∧ ∃ y, Zj L0 N (.h2m1 v1 v2 v3 v21 v23 v30 v32 v33 v52 v65) = some (.inl y) ∧ Sx (v3 + 1) y) ∨ (∃ y, Zj L0 N (.h2m1 v1 v2 v3 v21 v23 v30 v32 v33 v52 v65) = some (.inl y) ∧ Fx y) := by
 have lw := j.lw; have lv := j.lv; have tb := j.tb
 have ef := j.eq (8 + IntKind.u64.wrap (L0.getD v3 RJ.z).a3 % 8).toNat (by omega)
 rw [show (8 + IntKind.u64.wrap (L0.getD v3 RJ.z).a3 % 8).toNat + 1 = (1 + (8 + IntKind.u64.wrap (L0.getD v3 RJ.z).a3 % 8)).toNat by omega] at ef
 by_cases c1 : v3 < L0.length ∧ v3 < 40
 ·obtain ⟨c1, c2⟩ := c1
  refine .inl ⟨c2, ?_⟩
  by_cases c3 : Int.tmod (L0.getD v3 RJ.z).a1 2 = 1
  ·apply Exists.intro
   apply And.intro
   ·show ZG L0 N v1 v2 v3 v21 v23 v30 v32 v33 v52 v65 = _
    unfold ZG
    refine Zk (by omega) ?_
    refine Zk (by omega) ?_
    refine Zk c3 ?_
    repeat (first | refine Zk (by omega) ?_ | refine Zi (by omega) ?_ | refine Zi (ZY (by omega)) ?_)
    rfl
   ·refine ⟨rfl, j.store (by omega) (by omega) (by omega) _, ?_⟩
    first | (refine ⟨?_, ?_⟩ <;> simp <;> omega) | (simp <;> omega) | (simp; done) | omega
  ·obtain ⟨y0, y1, y2, hf⟩ := Zdf (a0 := 2) (a1 := 1048577) (a2 := (8 + IntKind.u64.wrap (L0.getD v3 RJ.z).a3 % 8)) (L := v65) (N := N) (by omega) hN
   by_cases hy : y2 = true
   ·apply Exists.intro
    apply And.intro
    ·show ZG L0 N v1 v2 v3 v21 v23 v30 v32 v33 v52 v65 = _
     unfold ZG
     refine Zk (by omega) ?_
     refine Zk (by omega) ?_
     refine Zi c3 ?_
     repeat (first | refine Zk (by omega) ?_ | refine Zi (by omega) ?_ | refine Zi (ZY (by omega)) ?_)
     refine Zbf hf ?_
     refine Zi (fun h => h hy) ?_
     repeat (first | refine Zk (by omega) ?_ | refine Zi (by omega) ?_ | refine Zi (ZY (by omega)) ?_)
     refine Zi (fun h => h ⟨congrArg RG.a0 ef, congrArg RG.a1 ef⟩) ?_
     rfl
    ·refine ⟨rfl, j.load (by omega), ?_⟩
     first | (refine ⟨?_, ?_⟩ <;> simp <;> omega) | (simp <;> omega) | (simp; done) | omega
   ·apply Exists.intro
    apply And.intro
    ·show ZG L0 N v1 v2 v3 v21 v23 v30 v32 v33 v52 v65 = _
     unfold ZG
     refine Zk (by omega) ?_
     refine Zk (by omega) ?_
     refine Zi c3 ?_
     repeat (first | refine Zk (by omega) ?_ | refine Zi (by omega) ?_ | refine Zi (ZY (by omega)) ?_)
     refine Zbf hf ?_
     refine Zk hy ?_
     repeat (first | refine Zk (by omega) ?_ | refine Zi (by omega) ?_ | refine Zi (ZY (by omega)) ?_)
     refine Zi (fun h => h ⟨congrArg RG.a0 ef, congrArg RG.a1 ef⟩) ?_
     rfl
    ·refine ⟨rfl, j.load (by omega), ?_⟩
     first | (refine ⟨?_, ?_⟩ <;> simp <;> omega) | (simp <;> omega) | (simp; done) | omega
 ·refine .inr ?_
  apply Exists.intro
  apply And.intro
  ·show ZG L0 N v1 v2 v3 v21 v23 v30 v32 v33 v52 v65 = _
   unfold ZG
   refine Ze9 (fun c => ?_) (fun c => ?_)
   ·refine Zi (by omega) ?_
    repeat (first | refine Zk (by omega) ?_ | refine Zi (by omega) ?_ | refine Zi (ZY (by omega)) ?_)
    rfl
   ·repeat (first | refine Zk (by omega) ?_ | refine Zi (by omega) ?_ | refine Zi (ZY (by omega)) ?_)
    rfl
  ·exact ⟨rfl, lw, lv, j.eq⟩
theorem ZlD {L0 : List RJ} {N : Nat} (hN : 2000 ≤ N) {v1 : Nat} {v2 : List RG} {v3 : Nat} {v19 : List RH} {v22 : Int} {v35 : Int} {v36 : Int} {v49 : Int} {v50 : Int} (j : J v1 v3 v2 V0) (hv19 : v19.length ≤ v3) (hi : v3 ≤ 40) : (v3 < 40 ∧ ∃ y, Zj L0 N (.h2m2 v1 v2 v3 v19 v22 v35 v36 v49 v50) = some (.inl y) ∧ Sx (v3 + 1) y) ∨ (∃ y, Zj L0 N (.h2m2 v1 v2 v3 v19 v22 v35 v36 v49 v50) = some (.inl y) ∧ Fx y) := by
 have lw := j.lw; have lv := j.lv; have tb := j.tb
 have ef := j.eq (8 + IntKind.u64.wrap (L0.getD v3 RJ.z).a3 % 8).toNat (by omega)
 rw [show (8 + IntKind.u64.wrap (L0.getD v3 RJ.z).a3 % 8).toNat + 1 = (1 + (8 + IntKind.u64.wrap (L0.getD v3 RJ.z).a3 % 8)).toNat by omega] at ef
 by_cases c1 : v3 < L0.length ∧ v3 < 40
 ·obtain ⟨c1, c2⟩ := c1
  refine .inl ⟨c2, ?_⟩
  by_cases c3 : Int.tmod (L0.getD v3 RJ.z).a1 2 = 1
  ·apply Exists.intro
   apply And.intro
   ·show ZV L0 N v1 v2 v3 v19 v22 v35 v36 v49 v50 = _
    unfold ZV
    refine Zk (by omega) ?_
    refine Zk (by omega) ?_
    refine Zk c3 ?_
    repeat (first | refine Zk (by omega) ?_ | refine Zi (by omega) ?_ | refine Zi (ZY (by omega)) ?_)
    rfl
   ·refine ⟨rfl, j.store (by omega) (by omega) (by omega) _, ?_⟩
    first | (refine ⟨?_, ?_⟩ <;> simp <;> omega) | (simp <;> omega) | (simp; done) | omega
  ·apply Exists.intro
   apply And.intro
   ·show ZV L0 N v1 v2 v3 v19 v22 v35 v36 v49 v50 = _
    unfold ZV
    refine Zk (by omega) ?_
    refine Zk (by omega) ?_
    refine Zi c3 ?_
    repeat (first | refine Zk (by omega) ?_ | refine Zi (by omega) ?_ | refine Zi (ZY (by omega)) ?_)
    refine Zbf (Zjs (by omega)) ?_
    repeat (first | refine Zk (by omega) ?_ | refine Zi (by omega) ?_ | refine Zi (ZY (by omega)) ?_)
    refine Zi (fun h => h ⟨congrArg RG.a0 ef, congrArg RG.a1 ef⟩) ?_
    rfl
   ·refine ⟨rfl, j.load (by omega), ?_⟩
    first | (refine ⟨?_, ?_⟩ <;> simp <;> omega) | (simp <;> omega) | (simp; done) | omega
 ·refine .inr ?_
  apply Exists.intro
  apply And.intro
  ·show ZV L0 N v1 v2 v3 v19 v22 v35 v36 v49 v50 = _
   unfold ZV
   refine Ze9 (fun c => ?_) (fun c => ?_)
   ·refine Zi (by omega) ?_
    repeat (first | refine Zk (by omega) ?_ | refine Zi (by omega) ?_ | refine Zi (ZY (by omega)) ?_)
    rfl
   ·repeat (first | refine Zk (by omega) ?_ | refine Zi (by omega) ?_ | refine Zi (ZY (by omega)) ?_)
    rfl
  ·exact ⟨rfl, lw, lv, j.eq⟩
theorem ZlE {L0 : List RJ} {N : Nat} (hN : 2000 ≤ N) {v1 : Nat} {v2 : List RG} {v3 : Nat} {v19 : List RH} {v22 : Int} {v35 : Int} {v36 : Int} {v49 : Int} {v50 : Int} {v53 : List RG} {v68 : List RI} (j : J v1 v3 v2 v53) (hv68 : v68.length ≤ v3) (hv19 : v19.length ≤ v3) (hi : v3 ≤ 40) : (v3 < 40 ∧ ∃ y, Zj L0 N (.h2m3 v1 v2 v3 v19 v22 v35 v36 v49 v50 v53 v68) = some (.inl y) ∧ Sx (v3 + 1) y) ∨ (∃ y, Zj L0 N (.h2m3 v1 v2 v3 v19 v22 v35 v36 v49 v50 v53 v68) = some (.inl y) ∧ Fx y) := by
 have lw := j.lw; have lv := j.lv; have tb := j.tb
 have ef := j.eq (8 + IntKind.u64.wrap (L0.getD v3 RJ.z).a3 % 8).toNat (by omega)
 rw [show (8 + IntKind.u64.wrap (L0.getD v3 RJ.z).a3 % 8).toNat + 1 = (1 + (8 + IntKind.u64.wrap (L0.getD v3 RJ.z).a3 % 8)).toNat by omega] at ef
 by_cases c1 : v3 < L0.length ∧ v3 < 40
 ·obtain ⟨c1, c2⟩ := c1
  refine .inl ⟨c2, ?_⟩
  by_cases c3 : Int.tmod (L0.getD v3 RJ.z).a1 2 = 1
  ·apply Exists.intro
   apply And.intro
   ·show ZH L0 N v1 v2 v3 v19 v22 v35 v36 v49 v50 v53 v68 = _
    unfold ZH
    refine Zk (by omega) ?_
    refine Zk (by omega) ?_
    refine Zk c3 ?_
    repeat (first | refine Zk (by omega) ?_ | refine Zi (by omega) ?_ | refine Zi (ZY (by omega)) ?_)
    rfl
   ·refine ⟨rfl, j.store (by omega) (by omega) (by omega) _, ?_⟩
    first | (refine ⟨?_, ?_⟩ <;> simp <;> omega) | (simp <;> omega) | (simp; done) | omega
  ·obtain ⟨y0, y1, y2, hf⟩ := Zdf (a0 := 2) (a1 := 1048577) (a2 := (8 + IntKind.u64.wrap (L0.getD v3 RJ.z).a3 % 8)) (L := v68) (N := N) (by omega) hN
   by_cases hy : y2 = true
   ·apply Exists.intro
    apply And.intro
    ·show ZH L0 N v1 v2 v3 v19 v22 v35 v36 v49 v50 v53 v68 = _
     unfold ZH
     refine Zk (by omega) ?_
     refine Zk (by omega) ?_
     refine Zi c3 ?_
     repeat (first | refine Zk (by omega) ?_ | refine Zi (by omega) ?_ | refine Zi (ZY (by omega)) ?_)
     refine Zbf hf ?_
     refine Zi (fun h => h hy) ?_
     repeat (first | refine Zk (by omega) ?_ | refine Zi (by omega) ?_ | refine Zi (ZY (by omega)) ?_)
     refine Zi (fun h => h ⟨congrArg RG.a0 ef, congrArg RG.a1 ef⟩) ?_
     rfl
    ·refine ⟨rfl, j.load (by omega), ?_⟩
     first | (refine ⟨?_, ?_⟩ <;> simp <;> omega) | (simp <;> omega) | (simp; done) | omega
   ·apply Exists.intro
    apply And.intro
    ·show ZH L0 N v1 v2 v3 v19 v22 v35 v36 v49 v50 v53 v68 = _
     unfold ZH
     refine Zk (by omega) ?_
     refine Zk (by omega) ?_
     refine Zi c3 ?_
     repeat (first | refine Zk (by omega) ?_ | refine Zi (by omega) ?_ | refine Zi (ZY (by omega)) ?_)
     refine Zbf hf ?_
     refine Zk hy ?_
     repeat (first | refine Zk (by omega) ?_ | refine Zi (by omega) ?_ | refine Zi (ZY (by omega)) ?_)
     refine Zi (fun h => h ⟨congrArg RG.a0 ef, congrArg RG.a1 ef⟩) ?_
     rfl
    ·refine ⟨rfl, j.load (by omega), ?_⟩
     first | (refine ⟨?_, ?_⟩ <;> simp <;> omega) | (simp <;> omega) | (simp; done) | omega
 ·refine .inr ?_
  apply Exists.intro
  apply And.intro
  ·show ZH L0 N v1 v2 v3 v19 v22 v35 v36 v49 v50 v53 v68 = _
   unfold ZH
   refine Ze9 (fun c => ?_) (fun c => ?_)
   ·refine Zi (by omega) ?_
    repeat (first | refine Zk (by omega) ?_ | refine Zi (by omega) ?_ | refine Zi (ZY (by omega)) ?_)
    rfl
   ·repeat (first | refine Zk (by omega) ?_ | refine Zi (by omega) ?_ | refine Zi (ZY (by omega)) ?_)
    rfl
  ·exact ⟨rfl, lw, lv, j.eq⟩
theorem ZlF {L0 : List RJ} {N : Nat} (hN : 2000 ≤ N) {v1 : Nat} {v2 : List RG} {v3 : Nat} {v21 : Int} {v34 : Int} {v35 : Int} {v48 : Int} {v49 : Int} {v52 : List RG} {v67 : List RI} (j : J v1 v3 v2 v52) (hv67 : v67.length ≤ v3) (hi : v3 ≤ 40) : (v3 < 40 ∧ ∃ y, Zj L0 N (.h2m4 v1 v2 v3 v21 v34 v35 v48 v49 v52 v67) = some (.inl y) ∧ Sx (v3 + 1) y) ∨ (∃ y, Zj L0 N (.h2m4 v1 v2 v3 v21 v34 v35 v48 v49 v52 v67) = some (.inl y) ∧ Fx y) := by
 have lw := j.lw; have lv := j.lv; have tb := j.tb
 have ef := j.eq (8 + IntKind.u64.wrap (L0.getD v3 RJ.z).a3 % 8).toNat (by omega)
 rw [show (8 + IntKind.u64.wrap (L0.getD v3 RJ.z).a3 % 8).toNat + 1 = (1 + (8 + IntKind.u64.wrap (L0.getD v3 RJ.z).a3 % 8)).toNat by omega] at ef
 by_cases c1 : v3 < L0.length ∧ v3 < 40
 ·obtain ⟨c1, c2⟩ := c1
  refine .inl ⟨c2, ?_⟩
  by_cases c3 : Int.tmod (L0.getD v3 RJ.z).a1 2 = 1
  ·apply Exists.intro
   apply And.intro
   ·show ZI L0 N v1 v2 v3 v21 v34 v35 v48 v49 v52 v67 = _
    unfold ZI
    refine Zk (by omega) ?_
    refine Zk (by omega) ?_
    refine Zk c3 ?_
    repeat (first | refine Zk (by omega) ?_ | refine Zi (by omega) ?_ | refine Zi (ZY (by omega)) ?_)
    rfl
   ·refine ⟨rfl, j.store (by omega) (by omega) (by omega) _, ?_⟩
    first | (refine ⟨?_, ?_⟩ <;> simp <;> omega) | (simp <;> omega) | (simp; done) | omega
  ·obtain ⟨y0, y1, y2, hf⟩ := Zdf (a0 := 2) (a1 := 1048577) (a2 := (8 + IntKind.u64.wrap (L0.getD v3 RJ.z).a3 % 8)) (L := v67) (N := N) (by omega) hN
   by_cases hy : y2 = true
   ·apply Exists.intro
    apply And.intro
    ·show ZI L0 N v1 v2 v3 v21 v34 v35 v48 v49 v52 v67 = _
     unfold ZI
     refine Zk (by omega) ?_
     refine Zk (by omega) ?_
     refine Zi c3 ?_
     repeat (first | refine Zk (by omega) ?_ | refine Zi (by omega) ?_ | refine Zi (ZY (by omega)) ?_)
     refine Zbf hf ?_
     refine Zi (fun h => h hy) ?_
     repeat (first | refine Zk (by omega) ?_ | refine Zi (by omega) ?_ | refine Zi (ZY (by omega)) ?_)
     refine Zi (fun h => h ⟨congrArg RG.a0 ef, congrArg RG.a1 ef⟩) ?_
     rfl
    ·refine ⟨rfl, j.load (by omega), ?_⟩
     first | (refine ⟨?_, ?_⟩ <;> simp <;> omega) | (simp <;> omega) | (simp; done) | omega
   ·apply Exists.intro
    apply And.intro
    ·show ZI L0 N v1 v2 v3 v21 v34 v35 v48 v49 v52 v67 = _
     unfold ZI
     refine Zk (by omega) ?_
     refine Zk (by omega) ?_
     refine Zi c3 ?_
     repeat (first | refine Zk (by omega) ?_ | refine Zi (by omega) ?_ | refine Zi (ZY (by omega)) ?_)
     refine Zbf hf ?_
     refine Zk hy ?_
     repeat (first | refine Zk (by omega) ?_ | refine Zi (by omega) ?_ | refine Zi (ZY (by omega)) ?_)
     refine Zi (fun h => h ⟨congrArg RG.a0 ef, congrArg RG.a1 ef⟩) ?_
     rfl
    ·refine ⟨rfl, j.load (by omega), ?_⟩
     first | (refine ⟨?_, ?_⟩ <;> simp <;> omega) | (simp <;> omega) | (simp; done) | omega
 ·refine .inr ?_
  apply Exists.intro
  apply And.intro
  ·show ZI L0 N v1 v2 v3 v21 v34 v35 v48 v49 v52 v67 = _
   unfold ZI
   refine Ze9 (fun c => ?_) (fun c => ?_)
   ·refine Zi (by omega) ?_
    repeat (first | refine Zk (by omega) ?_ | refine Zi (by omega) ?_ | refine Zi (ZY (by omega)) ?_)
    rfl
   ·repeat (first | refine Zk (by omega) ?_ | refine Zi (by omega) ?_ | refine Zi (ZY (by omega)) ?_)
    rfl
  ·exact ⟨rfl, lw, lv, j.eq⟩
theorem ZlG {L0 : List RJ} {N : Nat} (hN : 2000 ≤ N) {v1 : Nat} {v2 : List RG} {v3 : Nat} {v19 : List RH} {v22 : Int} {v24 : Int} {v31 : Nat} {v33 : Int} {v34 : Bool} {v49 : Int} {v50 : Int} {v53 : List RG} {v68 : List RI} (j : J v1 v3 v2 v53) (hv68 : v68.length ≤ v3) (hv19 : v19.length ≤ v3) (hi : v3 ≤ 40) : (v3 < 40 ∧ ∃ y, Zj L0 N (.h2m5 v1 v2 v3 v19 v22 v24 v31 v33 v34 v49 v50 v53 v68) = some (.inl y) ∧ Sx (v3 + 1) y) ∨ (∃ y, Zj L0 N (.h2m5 v1 v2 v3 v19 v22 v24 v31 v33 v34 v49 v50 v53 v68) = some (.inl y) ∧ Fx y) := by
 have lw := j.lw; have lv := j.lv; have tb := j.tb
 have ef := j.eq (8 + IntKind.u64.wrap (L0.getD v3 RJ.z).a3 % 8).toNat (by omega)
 rw [show (8 + IntKind.u64.wrap (L0.getD v3 RJ.z).a3 % 8).toNat + 1 = (1 + (8 + IntKind.u64.wrap (L0.getD v3 RJ.z).a3 % 8)).toNat by omega] at ef
 by_cases c1 : v3 < L0.length ∧ v3 < 40
 ·obtain ⟨c1, c2⟩ := c1
  refine .inl ⟨c2, ?_⟩
  by_cases c3 : Int.tmod (L0.getD v3 RJ.z).a1 2 = 1
  ·apply Exists.intro
   apply And.intro
   ·show ZJ L0 N v1 v2 v3 v19 v22 v24 v31 v33 v34 v49 v50 v53 v68 = _
    unfold ZJ
    refine Zk (by omega) ?_
    refine Zk (by omega) ?_
    refine Zk c3 ?_
    repeat (first | refine Zk (by omega) ?_ | refine Zi (by omega) ?_ | refine Zi (ZY (by omega)) ?_)
    rfl
   ·refine ⟨rfl, j.store (by omega) (by omega) (by omega) _, ?_⟩
    first | (refine ⟨?_, ?_⟩ <;> simp <;> omega) | (simp <;> omega) | (simp; done) | omega
  ·obtain ⟨y0, y1, y2, hf⟩ := Zdf (a0 := 2) (a1 := 1048577) (a2 := (8 + IntKind.u64.wrap (L0.getD v3 RJ.z).a3 % 8)) (L := v68) (N := N) (by omega) hN
   by_cases hy : y2 = true
   ·apply Exists.intro
    apply And.intro
    ·show ZJ L0 N v1 v2 v3 v19 v22 v24 v31 v33 v34 v49 v50 v53 v68 = _
     unfold ZJ
     refine Zk (by omega) ?_
     refine Zk (by omega) ?_
     refine Zi c3 ?_
     repeat (first | refine Zk (by omega) ?_ | refine Zi (by omega) ?_ | refine Zi (ZY (by omega)) ?_)
     refine Zbf hf ?_
     refine Zi (fun h => h hy) ?_
     repeat (first | refine Zk (by omega) ?_ | refine Zi (by omega) ?_ | refine Zi (ZY (by omega)) ?_)
     refine Zi (fun h => h ⟨congrArg RG.a0 ef, congrArg RG.a1 ef⟩) ?_
     rfl
    ·refine ⟨rfl, j.load (by omega), ?_⟩
     first | (refine ⟨?_, ?_⟩ <;> simp <;> omega) | (simp <;> omega) | (simp; done) | omega
   ·apply Exists.intro
    apply And.intro
    ·show ZJ L0 N v1 v2 v3 v19 v22 v24 v31 v33 v34 v49 v50 v53 v68 = _
     unfold ZJ
     refine Zk (by omega) ?_
     refine Zk (by omega) ?_
     refine Zi c3 ?_
     repeat (first | refine Zk (by omega) ?_ | refine Zi (by omega) ?_ | refine Zi (ZY (by omega)) ?_)
     refine Zbf hf ?_
     refine Zk hy ?_
     repeat (first | refine Zk (by omega) ?_ | refine Zi (by omega) ?_ | refine Zi (ZY (by omega)) ?_)
     refine Zi (fun h => h ⟨congrArg RG.a0 ef, congrArg RG.a1 ef⟩) ?_
     rfl
    ·refine ⟨rfl, j.load (by omega), ?_⟩
     first | (refine ⟨?_, ?_⟩ <;> simp <;> omega) | (simp <;> omega) | (simp; done) | omega
 ·refine .inr ?_
  apply Exists.intro
  apply And.intro
  ·show ZJ L0 N v1 v2 v3 v19 v22 v24 v31 v33 v34 v49 v50 v53 v68 = _
   unfold ZJ
   refine Ze9 (fun c => ?_) (fun c => ?_)
   ·refine Zi (by omega) ?_
    repeat (first | refine Zk (by omega) ?_ | refine Zi (by omega) ?_ | refine Zi (ZY (by omega)) ?_)
    rfl
   ·repeat (first | refine Zk (by omega) ?_ | refine Zi (by omega) ?_ | refine Zi (ZY (by omega)) ?_)
    rfl
  ·exact ⟨rfl, lw, lv, j.eq⟩
theorem ZlH {L0 : List RJ} {N : Nat} (hN : 2000 ≤ N) {v1 : Nat} {v2 : List RG} {v3 : Nat} {v21 : Int} {v23 : Int} {v48 : Int} {v49 : Int} {v52 : List RG} {v67 : List RI} (j : J v1 v3 v2 v52) (hv67 : v67.length ≤ v3) (hi : v3 ≤ 40) : (v3 < 40 ∧ ∃ y, Zj L0 N (.h2m6 v1 v2 v3 v21 v23 v48 v49 v52 v67) = some (.inl y) ∧ Sx (v3 + 1) y) ∨ (∃ y, Zj L0 N (.h2m6 v1 v2 v3 v21 v23 v48 v49 v52 v67) = some (.inl y) ∧ Fx y) := by
 have lw := j.lw; have lv := j.lv; have tb := j.tb
 have ef := j.eq (8 + IntKind.u64.wrap (L0.getD v3 RJ.z).a3 % 8).toNat (by omega)
 rw [show (8 + IntKind.u64.wrap (L0.getD v3 RJ.z).a3 % 8).toNat + 1 = (1 + (8 + IntKind.u64.wrap (L0.getD v3 RJ.z).a3 % 8)).toNat by omega] at ef
 by_cases c1 : v3 < L0.length ∧ v3 < 40
 ·obtain ⟨c1, c2⟩ := c1
  refine .inl ⟨c2, ?_⟩
  by_cases c3 : Int.tmod (L0.getD v3 RJ.z).a1 2 = 1
  ·apply Exists.intro
   apply And.intro
   ·show ZK L0 N v1 v2 v3 v21 v23 v48 v49 v52 v67 = _
    unfold ZK
    refine Zk (by omega) ?_
    refine Zk (by omega) ?_
    refine Zk c3 ?_
    repeat (first | refine Zk (by omega) ?_ | refine Zi (by omega) ?_ | refine Zi (ZY (by omega)) ?_)
    rfl
   ·refine ⟨rfl, j.store (by omega) (by omega) (by omega) _, ?_⟩
    first | (refine ⟨?_, ?_⟩ <;> simp <;> omega) | (simp <;> omega) | (simp; done) | omega
  ·obtain ⟨y0, y1, y2, hf⟩ := Zdf (a0 := 2) (a1 := 1048577) (a2 := (8 + IntKind.u64.wrap (L0.getD v3 RJ.z).a3 % 8)) (L := v67) (N := N) (by omega) hN
   by_cases hy : y2 = true
   ·apply Exists.intro
    apply And.intro
    ·show ZK L0 N v1 v2 v3 v21 v23 v48 v49 v52 v67 = _
     unfold ZK
     refine Zk (by omega) ?_
     refine Zk (by omega) ?_
     refine Zi c3 ?_
     repeat (first | refine Zk (by omega) ?_ | refine Zi (by omega) ?_ | refine Zi (ZY (by omega)) ?_)
     refine Zbf hf ?_
     refine Zi (fun h => h hy) ?_
     repeat (first | refine Zk (by omega) ?_ | refine Zi (by omega) ?_ | refine Zi (ZY (by omega)) ?_)
     refine Zi (fun h => h ⟨congrArg RG.a0 ef, congrArg RG.a1 ef⟩) ?_
     rfl
    ·refine ⟨rfl, j.load (by omega), ?_⟩
     first | (refine ⟨?_, ?_⟩ <;> simp <;> omega) | (simp <;> omega) | (simp; done) | omega
   ·apply Exists.intro
    apply And.intro
    ·show ZK L0 N v1 v2 v3 v21 v23 v48 v49 v52 v67 = _
     unfold ZK
     refine Zk (by omega) ?_
     refine Zk (by omega) ?_
     refine Zi c3 ?_
     repeat (first | refine Zk (by omega) ?_ | refine Zi (by omega) ?_ | refine Zi (ZY (by omega)) ?_)
     refine Zbf hf ?_
     refine Zk hy ?_
     repeat (first | refine Zk (by omega) ?_ | refine Zi (by omega) ?_ | refine Zi (ZY (by omega)) ?_)
     refine Zi (fun h => h ⟨congrArg RG.a0 ef, congrArg RG.a1 ef⟩) ?_
     rfl
    ·refine ⟨rfl, j.load (by omega), ?_⟩
     first | (refine ⟨?_, ?_⟩ <;> simp <;> omega) | (simp <;> omega) | (simp; done) | omega
 ·refine .inr ?_
  apply Exists.intro
  apply And.intro
  ·show ZK L0 N v1 v2 v3 v21 v23 v48 v49 v52 v67 = _
   unfold ZK
   refine Ze9 (fun c => ?_) (fun c => ?_)
   ·refine Zi (by omega) ?_
    repeat (first | refine Zk (by omega) ?_ | refine Zi (by omega) ?_ | refine Zi (ZY (by omega)) ?_)
    rfl
   ·repeat (first | refine Zk (by omega) ?_ | refine Zi (by omega) ?_ | refine Zi (ZY (by omega)) ?_)
    rfl
  ·exact ⟨rfl, lw, lv, j.eq⟩
theorem Zkj {L0 : List RJ} {N i : Nat} (hN : 2000 ≤ N) (hi : i ≤ 40) : ∀ x, Sx i x → (i < 40 ∧ ∃ y, Zj L0 N x = some (.inl y) ∧ Sx (i + 1) y) ∨ (∃ y, Zj L0 N x = some (.inl y) ∧ Fx y)
 | .h2m1 _ _ _ _ _ _ _ _ _ _, ⟨e, j, h0⟩ => by subst e; exact ZlC hN j h0 hi
 | .h2m2 _ _ _ _ _ _ _ _ _, ⟨e, j, h1⟩ => by subst e; exact ZlD hN j h1 hi
 | .h2m3 _ _ _ _ _ _ _ _ _ _ _, ⟨e, j, h0, h1⟩ => by subst e; exact ZlE hN j h0 h1 hi
 | .h2m4 _ _ _ _ _ _ _ _ _ _, ⟨e, j, h0⟩ => by subst e; exact ZlF hN j h0 hi
 | .h2m5 _ _ _ _ _ _ _ _ _ _ _ _ _, ⟨e, j, h0, h1⟩ => by subst e; exact ZlG hN j h0 h1 hi
 | .h2m6 _ _ _ _ _ _ _ _ _, ⟨e, j, h0⟩ => by subst e; exact ZlH hN j h0 hi
theorem Zju {L0 : List RJ} {N : Nat} (hN : 2000 ≤ N) : ∀ (m i n : Nat) (x : Zd), i + m = 40 → m + 30 < n → Sx i x → Za2 (Zj L0 N) n x = some (.r0 true)
 | 0, i, n, x, hi, hn, hx => by
  obtain ⟨n, rfl⟩ : ∃ m, n = m + 1 := ⟨n - 1, by omega⟩
  rcases Zkj (L0 := L0) hN (by omega) x hx with ⟨h, _⟩ | ⟨y, h1, h2⟩
  ·omega
  ·exact (Zaw h1).trans (Zjt (by omega) y h2)
 | m + 1, i, n, x, hi, hn, hx => by
  obtain ⟨n, rfl⟩ : ∃ m, n = m + 1 := ⟨n - 1, by omega⟩
  rcases Zkj (L0 := L0) hN (by omega) x hx with ⟨_, y, h1, h2⟩ | ⟨y, h1, h2⟩
  ·exact (Zaw h1).trans (Zju hN m (i + 1) n y (by omega) (by omega) h2)
  ·exact (Zaw h1).trans (Zjt (by omega) y h2)
theorem Zib {L0 : List RJ} {N : Nat} (hN : 2000 ≤ N) : ∀ (m k n : Nat) (W : List RG), k + m = 16 → m + 100 < n → W.length = 16 → (∀ f, f < k → V0.getD (f + 1) RG.z = W.getD f RG.z) → Za2 (Zj L0 N) n (.h1m0 W k) = some (.r0 true)
 | 0, k, n, W, hk, hn, hW, he => by
  obtain ⟨n, rfl⟩ : ∃ m, n = m + 1 := ⟨n - 1, by omega⟩
  have h1 : Zj L0 N (.h1m0 W k) = some (.inl (.h2m0 W)) := show Za4 L0 N W k = _ from Zi (by omega) rfl
  refine (Zaw h1).trans ?_
  obtain ⟨n, rfl⟩ : ∃ m, n = m + 1 := ⟨n - 1, by omega⟩
  have j : J 0 0 W V0 := ⟨hW, Znn, fun f hf => he f (by omega), by omega⟩
  rcases ZlB (L0 := L0) hN j (by omega) with ⟨_, y, h1, h2⟩ | ⟨y, h1, h2⟩
  ·exact (Zaw h1).trans (Zju hN 39 1 n y (by omega) (by omega) h2)
  ·exact (Zaw h1).trans (Zjt (by omega) y h2)
 | m + 1, k, n, W, hk, hn, hW, he => by
  obtain ⟨n, rfl⟩ : ∃ m, n = m + 1 := ⟨n - 1, by omega⟩
  have h1 : Zj L0 N (.h1m0 W k) = some (.inl (.h1m0 (W.set k ⟨(V0.getD (k + 1) RG.z).a0, (V0.getD (k + 1) RG.z).a1⟩) (k + 1))) := show Za4 L0 N W k = _ from Zk (by omega) <| Zk (by omega) rfl
  refine (Zaw h1).trans (Zib hN m (k + 1) n _ (by omega) (by omega) (by rw [List.length_set]; exact hW) fun f hf => ?_)
  rw [ZgF (by omega)]
  by_cases e : f = k
  ·rw [if_pos e, e]
  ·rw [if_neg e]; exact he f (by omega)
theorem runs (L0 : List RJ) (N : Nat) (hN : 2000 ≤ N) : Ze7 L0 N = some (.r0 true) :=
 (Zjr rfl).trans (Zib hN 16 0 N _ rfl (by omega) (by simp) fun f hf => by omega)
end Tx
end Ev
end Go.Proofs.YtgjgilibjbodfaaGreat
/- A region that draws its order, whose first operations only read (and make memory in calls), and whose last ones, in a forced order among themselves, make and write new memory: but these may come up early. -/
namespace Go.Proofs.YtgjgilibjbodfaaGreat
open Go.RowKit

section
variable {P : Program}

def Calm (P : Program) (W : World) (o : Oper) (a : Act) (v : Value) : Prop :=
 ∀ w, Below W.heap.size W w → o.quietAt P a (fun w' => Below w.heap.size w w') w v

def YieldsC (P : Program) (ops : Array Oper) (W : World) (o : Oper) (v : Value) (a : Act) : Prop :=
 (Region.wanted o (yielded ops a.tmps) = true ∧ Calm P W o a v) ∨ (Region.wanted o (yielded ops a.tmps) = false ∧ v = undef)
theorem Zic {a b c : World} (h : Below a.heap.size a b) (k : Below b.heap.size b c) : Below a.heap.size a c := h.trans (k.mono h.size)

def Closed (md : Region.Mode) (ops : Array Oper) (listed : Array Bool) : Prop :=
 ∀ j oj, ops[j]? = some oj → listed.getD j false = true → ∀ e ∈ oj.after, Region.binds md e = true → listed.getD e.on false = true
def Zjv (md : Region.Mode) (ops : Array Oper) : Nat → Nat → Nat → Bool
 | 0, _, _ => false
 | f + 1, t, i => Region.waitsFor md ops t i || (List.range ops.size).any fun k => Region.waitsFor md ops t k && Zjv md ops f k i
theorem Closed.waits {md : Region.Mode} {ops : Array Oper} {listed : Array Bool} (h : Closed md ops listed) : ∀ (f t i : Nat), listed.getD t false = true → Zjv md ops f t i = true → listed.getD i false = true
 | 0, _, _, _, hw => by cases hw
 | f + 1, t, i, ht, hw => by
  simp only [Zjv, Bool.or_eq_true, List.any_eq_true, Bool.and_eq_true] at hw
  rcases hw with hw | ⟨k, _, hw, hr⟩
  ·obtain ⟨o, ho, e, he, hb, rfl⟩ := Region.waitsFor_spec hw
   exact h t o ho ht e he hb
  ·obtain ⟨o, ho, e, he, hb, rfl⟩ := Region.waitsFor_spec hw
   exact h.waits f e.on i (h t o ho ht e he hb) hr

theorem YieldsC.wpOp {ops : Array Oper} {W : World} {i : Nat} {o : Oper} {v : Value} {a : Act} {w : World} (hi : ops[i]? = some o) (hy : YieldsC P ops W o v a) (hb : Below W.heap.size W w)
  {K : Act → World → Prop} {Q : Exit → Act → World → Prop} (h : ∀ w', Below w.heap.size w w' → K (a.put o.dst v) w') : wpOp P ops Q i K a w := by
 unfold Go.wpOp
 simp only [hi]
 rcases hy with ⟨hw, hv⟩ | ⟨hw, rfl⟩
 ·simp only [hw, if_true]
  exact .inl (Oper.wp_of_quiet (C := fun w' => Below w.heap.size w w') (K := fun a' => a' = a.put o.dst v) (Below.refl _ _) (fun a' w' hw' ha => by subst ha; exact h w' hw')
   ⟨v, fun w1 hw1 => by
    have h1 := hv w1 (Zic hb hw1)
    unfold Oper.quietAt at h1 ⊢
    generalize (execOp a.eval o).run P w1 = r at *
    cases r with
    | ok n w' =>
     cases n <;> simp only [Oper.quietUpon] at h1 ⊢
     case value u => exact h1
     case skip => exact h1
     case enter f args => exact ⟨h1.1, h1.2.mono fun e w2 ⟨he, hb2⟩ => ⟨he, Zic hw1 hb2⟩⟩
    | halt x w' => simp only [Oper.quietUpon] at h1, rfl⟩)
 ·simp only [hw, Bool.false_eq_true, if_false]
  exact h w (Below.refl _ _)

end
end Go.Proofs.YtgjgilibjbodfaaGreat
/- The law TxnAlone, for every input. -/
namespace Go.Proofs.YtgjgilibjbodfaaGreat
open Go.IntKind (i64)
open Go.ChangeShapes Go.WideShapes Go.ChangeAt Go.RowKit
namespace Ev
namespace TxnAlone
set_option linter.unusedVariables false
def el0R (x : RJ) : Prop := (i64.min ≤ x.a0 ∧ x.a0 ≤ i64.max) ∧ (i64.min ≤ x.a1 ∧ x.a1 ≤ i64.max) ∧ (i64.min ≤ x.a2 ∧ x.a2 ≤ i64.max) ∧ (i64.min ≤ x.a3 ∧ x.a3 ≤ i64.max) ∧ (i64.min ≤ x.a4 ∧ x.a4 ≤ i64.max) ∧ (i64.min ≤ x.a5 ∧ x.a5 ≤ i64.max) ∧ (i64.min ≤ x.a6 ∧ x.a6 ≤ i64.max) ∧ (i64.min ≤ x.a7 ∧ x.a7 ≤ i64.max) ∧ (i64.min ≤ x.a8 ∧ x.a8 ≤ i64.max) ∧ (i64.min ≤ x.a9 ∧ x.a9 ≤ i64.max) ∧ (i64.min ≤ x.a10 ∧ x.a10 ≤ i64.max) ∧ (i64.min ≤ x.a11 ∧ x.a11 ≤ i64.max)
theorem el0 {H : Type} {enc : TypeId × Value → H} {w : World} {cs : List Value} (hl : cs.length = 12) (h : Trd enc Tryz.prog w 46 cs) : ∃ x : RJ, DecL w cs (RE.cel x) ∧ el0R x := by
 have h0 := Znk (by kernel_rfl : Tryz.prog.cellsOf 46 = 12) hl h
 have h1 := Zaz 0 1 12 Tryz.underlying46 h0 0 (te := 3) (o' := 0) (by kernel_rfl) rfl (by kernel_rfl) (by kernel_rfl) (by decide)
 obtain ⟨x0, e0, b0⟩ := ZbI Tryz.underlying3 (by kernel_rfl) h1
 have h2 := Zaz 1 1 12 Tryz.underlying46 h0 1 (te := 3) (o' := 1) (by kernel_rfl) rfl (by kernel_rfl) (by kernel_rfl) (by decide)
 obtain ⟨x1, e1, b1⟩ := ZbI Tryz.underlying3 (by kernel_rfl) h2
 have h3 := Zaz 2 1 12 Tryz.underlying46 h0 2 (te := 3) (o' := 2) (by kernel_rfl) rfl (by kernel_rfl) (by kernel_rfl) (by decide)
 obtain ⟨x2, e2, b2⟩ := ZbI Tryz.underlying3 (by kernel_rfl) h3
 have h4 := Zaz 3 1 12 Tryz.underlying46 h0 3 (te := 3) (o' := 3) (by kernel_rfl) rfl (by kernel_rfl) (by kernel_rfl) (by decide)
 obtain ⟨x3, e3, b3⟩ := ZbI Tryz.underlying3 (by kernel_rfl) h4
 have h5 := Zaz 4 1 12 Tryz.underlying46 h0 4 (te := 3) (o' := 4) (by kernel_rfl) rfl (by kernel_rfl) (by kernel_rfl) (by decide)
 obtain ⟨x4, e4, b4⟩ := ZbI Tryz.underlying3 (by kernel_rfl) h5
 have h6 := Zaz 5 1 12 Tryz.underlying46 h0 5 (te := 3) (o' := 5) (by kernel_rfl) rfl (by kernel_rfl) (by kernel_rfl) (by decide)
 obtain ⟨x5, e5, b5⟩ := ZbI Tryz.underlying3 (by kernel_rfl) h6
 have h7 := Zaz 6 1 12 Tryz.underlying46 h0 6 (te := 28) (o' := 6) (by kernel_rfl) rfl (by kernel_rfl) (by kernel_rfl) (by decide)
 obtain ⟨x6, e6, b6⟩ := ZbI Tryz.underlying28 (by kernel_rfl) h7
 have h8 := Zaz 7 3 12 Tryz.underlying46 h0 7 (te := 44) (o' := 7) (by kernel_rfl) rfl (by kernel_rfl) (by kernel_rfl) (by decide)
 have h9 := Zaz 0 1 3 Tryz.underlying44 h8 0 (te := 3) (o' := 7) (by kernel_rfl) rfl (by kernel_rfl) (by kernel_rfl) (by decide)
 obtain ⟨x7, e7, b7⟩ := ZbI Tryz.underlying3 (by kernel_rfl) h9
 have h10 := Zaz 1 1 3 Tryz.underlying44 h8 1 (te := 3) (o' := 8) (by kernel_rfl) rfl (by kernel_rfl) (by kernel_rfl) (by decide)
 obtain ⟨x8, e8, b8⟩ := ZbI Tryz.underlying3 (by kernel_rfl) h10
 have h11 := Zaz 2 1 3 Tryz.underlying44 h8 2 (te := 3) (o' := 9) (by kernel_rfl) rfl (by kernel_rfl) (by kernel_rfl) (by decide)
 obtain ⟨x9, e9, b9⟩ := ZbI Tryz.underlying3 (by kernel_rfl) h11
 have h12 := Zaz 10 2 12 Tryz.underlying46 h0 8 (te := 35) (o' := 10) (by kernel_rfl) rfl (by kernel_rfl) (by kernel_rfl) (by decide)
 have h13 := Zaz 0 1 2 Tryz.underlying35 h12 0 (te := 33) (o' := 10) (by kernel_rfl) rfl (by kernel_rfl) (by kernel_rfl) (by decide)
 obtain ⟨x10, e10, b10⟩ := ZbI Tryz.underlying33 (by kernel_rfl) h13
 have h14 := Zaz 1 1 2 Tryz.underlying35 h12 1 (te := 3) (o' := 11) (by kernel_rfl) rfl (by kernel_rfl) (by kernel_rfl) (by decide)
 obtain ⟨x11, e11, b11⟩ := ZbI Tryz.underlying3 (by kernel_rfl) h14
 refine ⟨(⟨x0, x1, x2, x3, x4, x5, x6, x7, x8, x9, x10, x11⟩ : RJ), ZmQ (by rw [hl, Enc.clen]; rfl) (fun j y hy => ?_), ⟨b0, b1, b2, b3, b4, b5, b6, b7, b8, b9, b10, b11⟩⟩
 have := (Zbe (w := w) (k := 0) e0 .i (Zbe (w := w) (k := 1) e1 .i (Zbe (w := w) (k := 2) e2 .i (Zbe (w := w) (k := 3) e3 .i (Zbe (w := w) (k := 4) e4 .i (Zbe (w := w) (k := 5) e5 .i (Zbe (w := w) (k := 6) e6 .i (Zbe (w := w) (k := 7) e7 .i (Zbe (w := w) (k := 8) e8 .i (Zbe (w := w) (k := 9) e9 .i (Zbe (w := w) (k := 10) e10 .i (Zbe (w := w) (k := 11) e11 .i (Znj (w := w)))))))))))))) j y hy
 simpa using this
theorem own : ownKnob Tryz.prog.godebug = none := by kernel_rfl
set_option maxRecDepth 100000 in
theorem lifted (os : Os) (started : os.Started) (H : Type) (enc : TypeId × Value → H) :
  ReturnsInHanded {} Tryz.checked os 3 .any (Rows.txnAloneSpec.pre6 enc Tryz.prog Tryz.f3 Rows.txnAloneRow.domain false) (Rows.txnAloneSpec.post enc Tryz.prog Tryz.f3 false true false false) := by
 refine Zlw (C := Tryz.checked) own started (by kernel_rfl) Tryz.func3 rfl rfl Tryz.underlying4 ?_ (by kernel_rfl) (by kernel_rfl)
  (ChangeSpec.witness6 (enc := enc) (C := Tryz.checked) false ⟨#[], #[.slice none 0 0], []⟩ 8 (by kernel_rfl) (by kernel_rfl) (by kernel_rfl) (by kernel_rfl)) ?_
 ·intro ds hlen
  have hlen : ds.length = 1 := hlen.trans (by kernel_rfl)
  match ds, hlen with
  | [_], _ => rfl
 intro W base args ds p hval hA hlt hsz
 rw [Tryz.params3] at hA hval
 obtain ⟨v0, vs0, d0, ds0, p0, q0, hargs, rfl, rfl, h0, r0⟩ := trodAll_cons hA
 obtain ⟨rfl, rfl, rfl⟩ := trodAll_nil r0
 obtain rfl : args = #[v0] := by cases args; simp_all
 obtain ⟨a0, l0, c0, rfl⟩ := Go.WideShapes.okWide_slice Tryz.underlying22 (hval 0 22 v0 rfl rfl)
 obtain ⟨L0, u0, e0, D0, n0, m0⟩ := Zl6 (E := RE) (Q := el0R) Tryz.underlying22 (by kernel_rfl) (by decide) (fun _ => el0) (ZmR h0)
 obtain rfl : u0 = .slice a0 l0 c0 := by have := e0; simp [Value.cells] at this; exact this.symm
 exact Zng (Zfu L0 100000 _ (Tx.runs L0 100000 (by decide))) (Zmf (show VR (ιMk W) (ms RE L0) _ from D0.vr) ZmD) rfl
theorem over : Rows.txnAloneRow.holds Tryz.pinned (OpenSpec.ofChange Rows.txnAloneSpec) :=
 OpenClaim.holds_of_wide 3 Tryz.f3 rfl rfl rfl rfl rfl rfl rfl ⟨rfl, rfl, rfl, rfl, rfl⟩ rfl rfl rfl rfl rfl (by kernel_rfl) Tryz.func3 (by kernel_rfl)
  (of_decide_eq_true (by kernel_rfl)) (by unfold Func.isWrapper; first | (rw [if_pos (by decide +kernel)]; kernel_rfl) | (rw [if_neg (by decide +kernel)]; exact ⟨rfl, rfl⟩))
  (fun os started H enc _ => lifted os started H enc)
theorem proved : Rows.TxnAloneSaid := over
#print axioms proved
end TxnAlone
end Ev
end Go.Proofs.YtgjgilibjbodfaaGreat
