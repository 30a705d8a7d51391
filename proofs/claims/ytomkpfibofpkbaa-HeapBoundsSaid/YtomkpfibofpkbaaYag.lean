/- The law HeapBounds, for every input. -/
import Derived.Test.YtomkpfibofpkbaaYaf
import Derived.Test.YtomkpfibofpkbaaYac
import Derived.StillTail
import Derived.OrdersHeld
import Derived.WideBlind
import Derived.Test.YtomkpfibofpkbaaYad
set_option linter.unusedSimpArgs false
set_option linter.unusedVariables false
/- HeapBounds: more calls, of the program and of the document. -/
namespace Go.Proofs.Ytomkpfibofpkbaa
open Go.IntKind (i64)
open Go.RowKit
namespace Ev
set_option linter.unusedVariables false
set_option linter.unusedSimpArgs false
set_option maxRecDepth 100000
namespace Hl
section
variable {u i : Nat} {w : Int} {L : List PA} {Fr : List Int} {Md : List RF} {H : List RG} {V : List RF} {W : Nat → List Int} {N : Nat} {K Q : Int}
theorem Zbd (k : Nat) : ((k : Int)).toNat = k := by omega
theorem Inv.fld (I : Inv u i w L Fr Md H V W) (hi : i ≤ 60) (hQ : Q ≤ 9223372036854775807) (hN : 2000 ≤ N) (f : Int) :
  (∃ e x k, ¬ e = 0 ∧ Zaf K Q f w H V W N = some (.r0 x e) ∧ Zas w L Fr K Q N = some (.r0 k e)) ∨
  (∃ (k : Nat) (x : Int), k < L.length ∧ Zaf K Q f w H V W N = some (.r0 x 22) ∧ Zas w L Fr K Q N = some (.r0 (k : Int) 0) ∧ (f < 0 ∨ (L.getD k RI.z).a4 ≤ f)) ∨
  (∃ k : Nat, k < L.length ∧ Zaf K Q f w H V W N = some (.r0 (L.getD k RI.z).a0 0) ∧ Zas w L Fr K Q N = some (.r0 (k : Int) 0) ∧ 0 ≤ f ∧ f < (L.getD k RI.z).a4) := by
 have hw : 0 < w := by have := I.w1; omega
 rcases I.get (K := K) (Q := Q) hi hQ hN with ⟨e, x, k, he, h1, h2⟩ | ⟨k, hk, h1, h2, h3⟩
 ·exact .inl ⟨e, 0, k, he, Zb hw <| Zi h1 <| Zb he rfl, h2⟩
 ·obtain ⟨i1, i2, i3⟩ := I.ix hk
  by_cases hf0 : f < 0
  ·exact .inr (.inl ⟨k, 0, hk, Zb hw <| Zi h1 <| Zg (fun h => h rfl) <| Zb hf0 rfl, h2, .inl hf0⟩)
  ·have hgo : ∀ {r}, (if (pl (L.getD k RI.z)).a1 ≤ f then some (.r0 0 22 : Zaj) else some (.r0 (L.getD k RI.z).a0 0)) = some r → Zaf K Q f w H V W N = some r := fun h => Zb hw <| Zi h1 <| Zg (fun h => h rfl) <| Zg hf0 <| by
    show (if 0 ≤ i64.wrap ((L.getD k RI.z).a0 - 1) then _ else _) = _
    rw [i1, i3]
    exact Zb (by omega) <| Zb (by omega) h
   by_cases hf : (L.getD k RI.z).a4 ≤ f
   ·exact .inr (.inl ⟨k, 0, hk, hgo (Zb hf rfl), h2, .inr hf⟩)
   ·exact .inr (.inr ⟨k, hk, hgo (Zg hf rfl), h2, by omega, by omega⟩)
theorem Inv.vx (I : Inv u i w L Fr Md H V W) {k : Nat} (h : k < L.length) {f : Int} (f0 : 0 ≤ f) (f1 : f < (L.getD k RI.z).a4) : i64.wrap ((L.getD k RI.z).a0 + f) = (L.getD k RI.z).a0 + f ∧ ((L.getD k RI.z).a0 + f).toNat = sz (L.take k) + 1 + f.toNat ∧ 0 ≤ (L.getD k RI.z).a0 + f ∧ ((L.getD k RI.z).a0 + f).toNat < V.length ∧ f.toNat < (L.getD k RI.z).a8.length ∧ (L.getD k RI.z).a8.length ≤ 16 := by
 obtain ⟨p1, p2, p3⟩ := I.at_ h
 have := p1.ad; have := p1.f1; have := p1.f2; have := p1.fl; have h1 := I.sw; have h2 := I.w2
 have hV : V.length = sz L := by rw [I.vv]; exact ZfD I.ok
 exact ⟨w64 (by omega) (by omega), by omega, by omega, by omega, by omega, by omega⟩
theorem Inv.load (I : Inv u i w L Fr Md H V W) (hi : i ≤ 60) (hQ : Q ≤ 9223372036854775807) (hN : 2000 ≤ N) (f : Int) : ∃ a b e, Zcb K Q f w H V W N = some (.r0 a b e) ∧ ZdR w L Fr K Q f N = some (.r0 a b e) := by
 rcases I.fld (K := K) (Q := Q) hi hQ hN f with ⟨e, x, k, he, h1, h2⟩ | ⟨k, x, hk, h1, h2, h3⟩ | ⟨k, hk, h1, h2, f0, f1⟩
 ·exact ⟨0, 0, e, Zi h1 <| Zb he rfl, Zi h2 <| Zb he rfl⟩
 ·refine ⟨0, 0, 22, Zi h1 <| Zb (by decide) rfl, Zi h2 <| Zg (fun h => h rfl) <| ZI (fun _ => rfl) fun hf => Zb (by omega) <| Zb (by omega) <| Zb ?_ rfl⟩
  rw [Zbd]
  rcases h3 with h3 | h3
  ·exact absurd h3 hf
  ·exact h3
 ·obtain ⟨v1, v2, v3, v4, v5, v6⟩ := I.vx hk f0 f1
  refine ⟨((L.getD k RI.z).a8.getD f.toNat RF.z).a0, ((L.getD k RI.z).a8.getD f.toNat RF.z).a1, 0, Zi h1 <| Zg (fun h => h rfl) ?_, Zi h2 <| Zg (fun h => h rfl) <| Zg (by omega) <| Zb (by omega) <| Zb (by omega) ?_⟩
  ·show (if 0 ≤ i64.wrap ((L.getD k RI.z).a0 + f) then _ else _) = _
   rw [v1]
   refine Zb v3 <| Zb v4 ?_
   rw [v2, I.vv, ZuL I.ok hk v5]
  ·rw [Zbd]
   exact Zg (by omega) <| Zb v5 rfl
theorem Inv.store (I : Inv u i w L Fr Md H V W) (hi : i ≤ 60) (hQ : Q ≤ 9223372036854775807) (hN : 2000 ≤ N) (f vK vN : Int) (hv : vN ≤ 9223372036854775807) : ∃ e V' L', Za5 K Q f vK vN w H V W N = some (.r0 V' e) ∧ Zch w L Fr K Q f vK vN N = some (.r0 L' e) ∧ Inv u (i + 1) w L' Fr Md H V' W := by
 have hl := I.ln
 rcases I.fld (K := K) (Q := Q) hi hQ hN f with ⟨e, x, k, he, h1, h2⟩ | ⟨k, x, hk, h1, h2, h3⟩ | ⟨k, hk, h1, h2, f0, f1⟩
 ·exact ⟨e, V, L, Zi h1 <| Zb he rfl, Zi h2 <| Zb he rfl, I.up⟩
 ·refine ⟨22, V, L, Zi h1 <| Zb (by decide) rfl, Zi h2 <| Zg (fun h => h rfl) <| Zb (by omega) <| Zb (by omega) <| ZI (fun _ => rfl) fun hf => Zb ?_ rfl, I.up⟩
  rw [Zbd]
  rcases h3 with h3 | h3
  ·exact absurd h3 hf
  ·exact h3
 ·obtain ⟨v1, v2, v3, v4, v5, v6⟩ := I.vx hk f0 f1
  obtain ⟨i1, i2, i3⟩ := I.ix hk
  obtain ⟨p1, _, _⟩ := I.at_ hk
  have q1 := p1.f2; have q2 := p1.m0
  have hb0 : 0 ≤ (L.getD k RI.z).a5 / 2 ^ f.toNat := Int.ediv_nonneg q2 (Int.le_of_lt (Zj6 _))
  have hpl : Zmz (L.getD k RI.z) f vK vN → Pl (1 + sz (L.take k)) (i + 2) ({ L.getD k RI.z with a8 := (L.getD k RI.z).a8.set f.toNat ⟨vK, vN⟩ } : PA) := fun hf => ⟨p1.ad, p1.f1, p1.f2, by have := p1.fl; show (((L.getD k RI.z).a8.set f.toNat _).length : Int) = (L.getD k RI.z).a4; rw [List.length_set]; exact this, p1.k, p1.n, p1.g1, by have := p1.g2; show (L.getD k RI.z).a3 ≤ _; omega, p1.m0, fun j hj => by
   show Zmz (L.getD k RI.z) (j : Int) (((L.getD k RI.z).a8.set f.toNat ⟨vK, vN⟩).getD j RF.z).a0 (((L.getD k RI.z).a8.set f.toNat ⟨vK, vN⟩).getD j RF.z).a1
   have hj : j < ((L.getD k RI.z).a8.set f.toNat ⟨vK, vN⟩).length := hj
   rw [List.length_set] at hj
   rw [Zqs v5]
   by_cases e : j = f.toNat
   ·rw [if_pos e, e]; exact hf
   ·rw [if_neg e]; exact p1.ft j hj⟩
  have hset := ZuK (v := ⟨vK, vN⟩) (q := { L.getD k RI.z with a8 := (L.getD k RI.z).a8.set f.toNat ⟨vK, vN⟩ }) I.ok hk v5 rfl
  have hH : H.set (sz (L.take k)) (pl { L.getD k RI.z with a8 := (L.getD k RI.z).a8.set f.toNat ⟨vK, vN⟩ }) = H := by
   have e : pl { L.getD k RI.z with a8 := (L.getD k RI.z).a8.set f.toNat ⟨vK, vN⟩ } = H.getD (sz (L.take k)) RG.z := by rw [(I.at_ hk).2.2]; rfl
   rw [e, List.getD_eq_getElem?_getD, List.getElem?_eq_getElem i2, Option.getD_some]
   exact List.set_getElem_self i2
  have hgo : ∀ {r}, (if bit (L.getD k RI.z) f then (if vK = 2 then (if ¬ vN = 0 then (if 0 < vN then (if vN / 1048576 ≤ 9223372036854775807 then (if 1 ≤ vN / 1048576 then (if vN / 1048576 ≤ 1073741824 then (if 1 ≤ vN % 1048576 then some (.r0 (V.set ((L.getD k RI.z).a0 + f).toNat ⟨vK, vN⟩) 0 : ZF) else some (.r0 V 10)) else some (.r0 V 10)) else some (.r0 V 10)) else none) else some (.r0 V 10)) else some (.r0 (V.set ((L.getD k RI.z).a0 + f).toNat ⟨vK, vN⟩) 0)) else some (.r0 V 10))
    else (if vK = 2 then (if ¬ vN = 0 then (if 0 < vN then (if vN / 1048576 ≤ 9223372036854775807 then some (.r0 V 10) else none) else some (.r0 V 10)) else some (.r0 V 10)) else (if vK = 1 then some (.r0 (V.set ((L.getD k RI.z).a0 + f).toNat ⟨vK, vN⟩) 0) else some (.r0 V 10)))) = some r → Za5 K Q f vK vN w H V W N = some r := fun {r} h => by
   refine Zi h1 <| Zg (fun h => h rfl) ?_
   show (if 0 ≤ i64.wrap ((L.getD k RI.z).a0 - 1) then _ else _) = _
   rw [i1, i3]
   refine Zb (by omega) <| Zb (by omega) <| Zb f0 <| Zb (by omega) ?_
   by_cases hb : bit (L.getD k RI.z) f
   ·rw [if_pos hb] at h
    refine Zb hb ?_
    by_cases c1 : vK = 2
    ·rw [if_pos c1] at h
     refine Zb c1 ?_
     by_cases c2 : ¬ vN = 0
     ·rw [if_pos c2] at h
      refine Zb c2 ?_
      by_cases c3 : 0 < vN
      ·rw [if_pos c3] at h
       refine Zb c3 ?_
       by_cases c4 : vN / 1048576 ≤ 9223372036854775807
       ·rw [if_pos c4] at h
        refine Zb c4 ?_
        by_cases c5 : 1 ≤ vN / 1048576
        ·rw [if_pos c5] at h
         refine Zb c5 ?_
         by_cases c6 : vN / 1048576 ≤ 1073741824
         ·rw [if_pos c6] at h
          refine Zb c6 ?_
          by_cases c7 : 1 ≤ vN % 1048576
          ·rw [if_pos c7] at h
           refine Zb c7 ?_
           rw [v1]
           exact Zb v3 <| Zb v4 h
          ·rw [if_neg c7] at h; exact Zg c7 h
         ·rw [if_neg c6] at h; exact Zg c6 h
        ·rw [if_neg c5] at h; exact Zg c5 h
       ·rw [if_neg c4] at h; cases h
      ·rw [if_neg c3] at h; exact Zg c3 h
     ·rw [if_neg c2] at h
      refine Zg c2 ?_
      rw [v1]
      exact Zb v3 <| Zb v4 h
    ·rw [if_neg c1] at h; exact Zg c1 h
   ·rw [if_neg hb] at h
    refine Zg hb ?_
    by_cases c1 : vK = 2
    ·rw [if_pos c1] at h
     exact Zb c1 h
    ·rw [if_neg c1] at h
     refine Zg c1 ?_
     by_cases c2 : vK = 1
     ·rw [if_pos c2] at h
      refine Zb c2 ?_
      rw [v1]
      exact Zb v3 <| Zb v4 h
     ·rw [if_neg c2] at h; exact Zg c2 h
  have hw4 := Zuc (w := w) (Fr := Fr) (N := N) (a4 := (L.getD k RI.z).a0) (a5 := (L.getD k RI.z).a1) (a6 := (L.getD k RI.z).a2) (a7 := (L.getD k RI.z).a3) (a8 := (L.getD k RI.z).a4) (a9 := (L.getD k RI.z).a5) (a10 := (L.getD k RI.z).a6) (a11 := (L.getD k RI.z).a7) (L12 := (L.getD k RI.z).a8.set f.toNat ⟨vK, vN⟩) hk (show L.length ≤ 1000 by omega)
  have hd : ∀ {r}, (if vK = 1 then (if bit (L.getD k RI.z) f then some (.r0 L 10 : Zag) else some (.r0 (L.set k { L.getD k RI.z with a8 := (L.getD k RI.z).a8.set f.toNat ⟨vK, vN⟩ }) 0)) else (if vK = 2 then (if vN = 0 then (if bit (L.getD k RI.z) f then some (.r0 (L.set k { L.getD k RI.z with a8 := (L.getD k RI.z).a8.set f.toNat ⟨vK, vN⟩ }) 0) else some (.r0 L 10)) else (if isR vN then (if bit (L.getD k RI.z) f then some (.r0 (L.set k { L.getD k RI.z with a8 := (L.getD k RI.z).a8.set f.toNat ⟨vK, vN⟩ }) 0) else some (.r0 L 10)) else some (.r0 L 10))) else some (.r0 L 10))) = some r → Zch w L Fr K Q f vK vN N = some r := fun {r} h => by
   refine Zi h2 <| Zg (fun h => h rfl) <| Zb (by omega) <| Zb (by omega) <| Zg (by omega) ?_
   rw [Zbd]
   refine Zg (by omega) ?_
   by_cases c1 : vK = 1
   ·rw [if_pos c1] at h
    refine Zb c1 <| Zb (by omega) <| Zb (by omega) <| Zb hb0 ?_
    by_cases hb : bit (L.getD k RI.z) f
    ·rw [if_pos hb] at h; exact Zb hb h
    ·rw [if_neg hb] at h
     exact Zg hb <| Zg (by omega) <| Zb (by omega) <| Zb (by omega) <| Zi hw4 h
   ·rw [if_neg c1] at h
    refine Zg c1 ?_
    by_cases c2 : vK = 2
    ·rw [if_pos c2] at h
     refine Zb c2 ?_
     by_cases c3 : vN = 0
     ·rw [if_pos c3] at h
      refine Zb c3 <| Zb (by omega) <| Zb (by omega) <| Zb hb0 ?_
      by_cases hb : bit (L.getD k RI.z) f
      ·rw [if_pos hb] at h
       exact Zb hb <| Zg (by omega) <| Zb (by omega) <| Zb (by omega) <| Zi hw4 h
      ·rw [if_neg hb] at h; exact Zg hb h
     ·rw [if_neg c3] at h
      refine Zg c3 ?_
      by_cases c4 : isR vN
      ·rw [if_pos c4] at h
       obtain ⟨r1, r2, r3⟩ := c4
       refine Zb r1 <| Zb (by omega) <| Zb r2 <| Zb r3 <| Zb (by omega) <| Zb (by omega) <| Zb hb0 ?_
       by_cases hb : bit (L.getD k RI.z) f
       ·rw [if_pos hb] at h
        exact Zb hb <| Zg (by omega) <| Zb (by omega) <| Zb (by omega) <| Zi hw4 h
       ·rw [if_neg hb] at h; exact Zg hb h
      ·rw [if_neg c4] at h
       unfold isR at c4
       exact ZI (fun r1 => Zb (by omega) <| ZI (fun r2 => Zg (by omega) h) fun _ => h) fun _ => h
    ·rw [if_neg c2] at h; exact Zg c2 h
  by_cases hf : Zmz (L.getD k RI.z) f vK vN
  ·refine ⟨0, V.set ((L.getD k RI.z).a0 + f).toNat ⟨vK, vN⟩, L.set k { L.getD k RI.z with a8 := (L.getD k RI.z).a8.set f.toNat ⟨vK, vN⟩ }, hgo ?_, hd ?_, ?_⟩
   ·rcases hf with ⟨rfl, hb⟩ | ⟨rfl, h, hb⟩
    ·exact Zg hb <| Zg (by decide) <| Zb rfl rfl
    ·refine Zb hb <| Zb rfl ?_
     rcases h with rfl | ⟨r1, r2, r3⟩
     ·exact Zg (fun h => h rfl) rfl
     ·exact Zb (by omega) <| Zb (by omega) <| Zb (by omega) <| Zb (by omega) <| Zb r2 <| Zb r3 rfl
   ·rcases hf with ⟨rfl, hb⟩ | ⟨rfl, h, hb⟩
    ·exact Zb rfl <| Zg hb rfl
    ·refine Zg (by decide) <| Zb rfl ?_
     rcases h with rfl | h
     ·exact Zb rfl <| Zb hb rfl
     ·exact Zg (by have := h.1; omega) <| Zb h <| Zb hb rfl
   ·have := I.set hk (hpl hf) rfl rfl (V' := V.set ((L.getD k RI.z).a0 + f).toNat ⟨vK, vN⟩) (by rw [v2, I.vv]; exact hset)
    rwa [hH] at this
  ·refine ⟨10, V, L, hgo ?_, hd ?_, I.up⟩
   ·refine ZI (fun hb => ZI (fun c1 => ?_) fun _ => rfl) fun hb => ZI (fun c1 => ZI (fun c2 => ZI (fun c3 => Zb (by omega) rfl) fun _ => rfl) fun _ => rfl) fun c1 => Zg (fun c2 => hf (.inl ⟨c2, hb⟩)) rfl
    have hn : ¬ (vN = 0 ∨ isR vN) := fun h => hf (.inr ⟨c1, h, hb⟩)
    refine Zb (fun h => hn (.inl h)) <| ZI (fun c3 => Zb (by omega) <| ZI (fun c4 => ZI (fun c5 => Zg (fun c6 => hn (.inr ⟨by omega, c5, c6⟩)) rfl) fun _ => rfl) fun _ => rfl) fun _ => rfl
   ·refine ZI (fun c1 => ZI (fun _ => rfl) fun hb => absurd (.inl ⟨c1, hb⟩) hf) fun c1 => ZI (fun c2 => ZI (fun c3 => Zg (fun hb => hf (.inr ⟨c2, .inl c3, hb⟩)) rfl) fun c3 => ZI (fun c4 => Zg (fun hb => hf (.inr ⟨c2, .inr c4, hb⟩)) rfl) fun _ => rfl) fun _ => rfl
theorem Inv.share (I : Inv u i w L Fr Md H V W) (hi : i ≤ 60) (hQ : Q ≤ 9223372036854775807) (hN : 2000 ≤ N) :
  (∃ e k, ¬ e = 0 ∧ ZaI K Q w H V W N = some (.r0 H e) ∧ Zas w L Fr K Q N = some (.r0 k e)) ∨
  (∃ k : Nat, k < L.length ∧ ¬ (L.getD k RI.z).a6 = 1 ∧ ZaI K Q w H V W N = some (.r0 H 0) ∧ Zas w L Fr K Q N = some (.r0 (k : Int) 0)) ∨
  (∃ (k : Nat) (H' : List RG) (L' : List PA), k < L.length ∧ (L.getD k RI.z).a6 = 1 ∧ ZaI K Q w H V W N = some (.r0 H' 0) ∧ Zas w L Fr K Q N = some (.r0 (k : Int) 0) ∧ ZcI w L Fr K Q 2 N = some (.r0 L' 0) ∧ Inv u (i + 1) w L' Fr Md H' V W) := by
 have hw : 0 < w := by have := I.w1; omega
 have hl := I.ln
 rcases I.get (K := K) (Q := Q) hi hQ hN with ⟨e, x, k, he, h1, h2⟩ | ⟨k, hk, h1, h2, h3⟩
 ·exact .inl ⟨e, k, he, Zb hw <| Zi h1 <| Zb he rfl, h2⟩
 ·obtain ⟨i1, i2, i3⟩ := I.ix hk
  obtain ⟨p1, _, _⟩ := I.at_ hk
  have hgo : ∀ {r}, (if (L.getD k RI.z).a6 = 1 then some (.r0 (H.set (sz (L.take k)) (pl { L.getD k RI.z with a6 := 2 })) 0 : ZaN) else some (.r0 H 0)) = some r → ZaI K Q w H V W N = some r := fun {r} h => by
   refine Zb hw <| Zi h1 <| Zg (fun h => h rfl) ?_
   show (if 0 ≤ i64.wrap ((L.getD k RI.z).a0 - 1) then _ else _) = _
   rw [i1, i3]
   exact Zb (by omega) <| Zb (by omega) h
  by_cases hs : (L.getD k RI.z).a6 = 1
  ·have hpl : Pl (1 + sz (L.take k)) (i + 2) ({ L.getD k RI.z with a6 := 2 } : PA) := ⟨p1.ad, p1.f1, p1.f2, p1.fl, p1.k, p1.n, p1.g1, by have := p1.g2; show (L.getD k RI.z).a3 ≤ _; omega, p1.m0, p1.ft⟩
   refine .inr (.inr ⟨k, H.set (sz (L.take k)) (pl { L.getD k RI.z with a6 := 2 }), L.set k { L.getD k RI.z with a6 := 2 }, hk, hs, hgo (Zb hs rfl), h2, ?_, I.set hk hpl rfl rfl (by rw [I.vv]; exact (Zm1 (q := { L.getD k RI.z with a6 := 2 }) hk rfl).symm)⟩)
   have hw3 := Zm2 (w := w) (Fr := Fr) (N := N) (a4 := (L.getD k RI.z).a0) (a5 := (L.getD k RI.z).a1) (a6 := (L.getD k RI.z).a2) (a7 := (L.getD k RI.z).a3) (a8 := (L.getD k RI.z).a4) (a9 := (L.getD k RI.z).a5) (a10 := 2) (a11 := (L.getD k RI.z).a7) (L12 := (L.getD k RI.z).a8) hk (show L.length ≤ 1000 by omega)
   exact Zi h2 <| Zg (fun h => h rfl) <| Zb (by decide) <| Zg (fun h => h rfl) <| Zb (by omega) <| Zb (by omega) <| Zi hw3 rfl
  ·exact .inr (.inl ⟨k, hk, hs, hgo (Zg hs rfl), h2⟩)
end
end Hl
end Ev
end Go.Proofs.Ytomkpfibofpkbaa
namespace Go.Proofs.Ytomkpfibofpkbaa
open Go.RowKit
namespace Ev
set_option linter.unusedVariables false
set_option linter.unusedSimpArgs false
set_option maxRecDepth 100000
namespace Hl
section
variable {u i : Nat} {w : Int} {L : List PA} {Fr : List Int} {Md : List RF} {H : List RG} {V : List RF} {W : Nat → List Int} {N : Nat} {K Q : Int}
theorem Zqv (L : List PA) (Fr : List Int) (n : Nat) : (wf L Fr n).length ≤ Fr.length := by unfold wf; rw [List.length_map]; exact List.length_filter_le _ _
theorem Znv (L : List PA) (A B : List Int) (n : Nat) : wf L (A ++ B) n = wf L A n ++ wf L B n := by simp [wf]
theorem ZnR (L : List PA) (k : Int) (B : List Int) (n : Nat) : wf L (k :: B) n = (if fl4 L n k then [(L.getD k.toNat RI.z).a0] else []) ++ wf L B n := by
 unfold wf
 rw [List.filter_cons]
 cases h : fl4 L n k <;> simp
theorem Zth (L : List PA) (n : Nat) : wf L [] n = [] := rfl
theorem ZnS {α : Type} {n : Nat} {x : Int} {f : Nat → Option α} {r : Option α} (h0 : 0 ≤ x) (h1 : x < n) (h : f x.toNat = r) : ZnE n x f = r := by unfold ZnE; rw [if_pos ⟨h0, h1⟩]; exact h
theorem Inv.release (I : Inv u i w L Fr Md H V W) (hi : i ≤ 59) (hQ : Q ≤ 9223372036854775807) (hN : 2000 ≤ N) :
  (∃ e, ZaV K Q w H V W N = some (.r0 e H W) ∧ ZaP w L Fr K Q N = some (.r0 L e)) ∨
  (∃ H' L' W' Fr', ZaV K Q w H V W N = some (.r0 0 H' W') ∧ ZaP w L Fr K Q N = some (.r1 L' Fr') ∧ Inv u (i + 1) w L' Fr' Md H' V W') := by
 have hw : 0 < w := by have := I.w1; omega
 have hl := I.ln
 rcases I.get (K := K) (Q := Q) (by omega) hQ hN with ⟨e, x, k, he, h1, h2⟩ | ⟨k, hk, h1, h2, h3⟩
 ·exact .inl ⟨e, Zb hw <| Zi h1 <| Zb he rfl, Zi h2 <| Zb he rfl⟩
 obtain ⟨i1, i2, i3⟩ := I.ix hk
 obtain ⟨p1, p2, _⟩ := I.at_ hk
 have a1 := p1.ad; have a2 := p1.f1; have a3 := p1.f2; have a4 := p1.g2
 by_cases hk0 : k = 0
 ·subst hk0
  have e1 : (L.getD 0 RI.z).a0 = 1 := by rw [a1]; rfl
  exact .inl ⟨1, Zb hw <| Zi h1 <| Zg (fun h => h rfl) <| Zb e1 rfl, Zi h2 <| Zg (fun h => h rfl) <| Zb rfl rfl⟩
 have hz : 0 < sz (L.take k) := by
  have e := Ze3 hk
  have hk' := I.ok
  rw [e] at hk'
  exact Zqu hk'.split.1 (by rw [List.length_take]; omega)
 have hpl : Pl (1 + sz (L.take k)) (i + 2) ({ L.getD k RI.z with a6 := 0 } : PA) := ⟨p1.ad, p1.f1, p1.f2, p1.fl, p1.k, p1.n, p1.g1, by show (L.getD k RI.z).a3 ≤ _; omega, p1.m0, p1.ft⟩
 have J := I.set hk hpl rfl rfl (V' := V) (by rw [I.vv]; exact (Zm1 (q := { L.getD k RI.z with a6 := 0 }) hk rfl).symm)
 have hg : (L.getD k RI.z).a3 < 1073741824 := by omega
 have hκ : (L.getD k RI.z).a4.toNat ≤ 16 := by omega
 have hwl : (W (L.getD k RI.z).a4.toNat).length ≤ 100000 := by rw [I.ww _ hκ]; have := Zqv L Fr (L.getD k RI.z).a4.toNat; have := I.fn; omega
 refine .inr ⟨H.set (sz (L.take k)) (pl { L.getD k RI.z with a6 := 0 }), L.set k { L.getD k RI.z with a6 := 0 }, Zjx W (L.getD k RI.z).a4.toNat (W (L.getD k RI.z).a4.toNat ++ [(L.getD k RI.z).a0]), Fr ++ [(k : Int)], ?_, ?_, ?_⟩
 ·refine Zb hw <| Zi h1 <| Zg (fun h => h rfl) <| Zg (by omega) ?_
  show (if 0 ≤ IntKind.i64.wrap ((L.getD k RI.z).a0 - 1) then _ else _) = _
  rw [i1, i3]
  exact Zb (by omega) <| Zb (by omega) <| Zb hg <| ZnS (by show 0 ≤ (L.getD k RI.z).a4; omega) (by show (L.getD k RI.z).a4 < 17; omega) <| Zb hwl rfl
 ·have hw3 := Zm2 (w := w) (Fr := Fr) (N := N) (a4 := (L.getD k RI.z).a0) (a5 := (L.getD k RI.z).a1) (a6 := (L.getD k RI.z).a2) (a7 := (L.getD k RI.z).a3) (a8 := (L.getD k RI.z).a4) (a9 := (L.getD k RI.z).a5) (a10 := 0) (a11 := (L.getD k RI.z).a7) (L12 := (L.getD k RI.z).a8) hk (show L.length ≤ 1000 by omega)
  refine Zi h2 <| Zg (fun h => h rfl) <| Zg (by omega) <| Zb (by omega) <| Zb (by omega) <| Zi hw3 <| Zb hg <| ZI (fun hF => ?_) fun hF => Zb (by have := I.fn; omega) rfl
  rw [List.eq_nil_of_length_eq_zero hF]; rfl
 ·refine { J with fn := by rw [List.length_append]; have := I.fn; simp; omega, fk := fun j hj => ?_, ww := fun n hn => ?_ }
  ·rcases List.mem_append.1 hj with hj | hj
   ·exact J.fk j hj
   ·obtain rfl := List.mem_singleton.1 hj
    rw [List.length_set]; omega
  ·rw [Znv, ZnR, Zth, List.append_nil, ← J.ww n hn]
   have e : fl4 (L.set k { L.getD k RI.z with a6 := 0 }) n (k : Int) = decide ((L.getD k RI.z).a4 = (n : Int)) := by
    unfold fl4; rw [Zbd, Zig hk, if_pos rfl]
   have e0 : ((L.set k { L.getD k RI.z with a6 := 0 }).getD ((k : Int)).toNat RI.z).a0 = (L.getD k RI.z).a0 := by rw [Zbd, Zig hk, if_pos rfl]
   rw [e, e0]
   by_cases hn2 : n = (L.getD k RI.z).a4.toNat
   ·subst hn2
    rw [Zot, decide_eq_true (by omega), if_pos rfl]
   ·rw [ZmZ hn2, decide_eq_false (by omega)]
    simp
theorem Inv.fork (I : Inv u i w L Fr Md H V W) (hi : i ≤ 60) : Zbm w H V W N = some .r0 := by
 have hw : 0 < w := by have := I.w1; omega
 have hH : H.length = sz L := by rw [I.hh]; rfl
 have hV : V.length = sz L := by rw [I.vv]; exact ZfD I.ok
 have h1 := I.sw; have h2 := I.w2; have h3 := I.fn; have hz := Zqu I.ok I.ne
 have hW : ∀ n, n ≤ 16 → Zw (W n) N = some .r0 := fun n hn => Zb (by rw [I.ww n hn]; have := Zqv L Fr n; omega) rfl
 exact Zb hw <| Zi (show Zak H N = some .r0 from Zb (by omega) <| Zb (by omega) rfl) <| Zi (show Zar V N = some .r0 from Zb (by omega) <| Zb (by omega) rfl) <|
  Zi (hW 0 (by omega)) <| Zi (hW 1 (by omega)) <| Zi (hW 2 (by omega)) <| Zi (hW 3 (by omega)) <| Zi (hW 4 (by omega)) <| Zi (hW 5 (by omega)) <| Zi (hW 6 (by omega)) <| Zi (hW 7 (by omega)) <| Zi (hW 8 (by omega)) <| Zi (hW 9 (by omega)) <| Zi (hW 10 (by omega)) <| Zi (hW 11 (by omega)) <| Zi (hW 12 (by omega)) <| Zi (hW 13 (by omega)) <| Zi (hW 14 (by omega)) <| Zi (hW 15 (by omega)) <| Zi (hW 16 (by omega)) rfl
/-! ### Alloc -/
theorem Zry {p : Int → Bool} : ∀ Fr : List Int, Fr.filter p = [] ∨ ∃ A k B, Fr = A ++ k :: B ∧ p k = true ∧ B.filter p = []
 | [] => .inl rfl
 | x :: Fr => by
  rcases Zry (p := p) Fr with h | ⟨A, k, B, h1, h2, h3⟩
  ·cases hx : p x with
   | true => exact .inr ⟨[], x, Fr, rfl, hx, h⟩
   | false => exact .inl (by rw [List.filter_cons, hx]; exact h)
  ·exact .inr ⟨x :: A, k, B, by rw [h1]; rfl, h2, h3⟩
theorem Zm3 {g a : Int} (h1 : 1 ≤ g) (h2 : g ≤ 1073741824) (h3 : 1 ≤ a) (h4 : a < 1048576) : Zbj g a N = some (.r0 2 (g * 1048576 + a)) := Zg (by omega) <| Zg (by omega) <| Zg (by omega) <| Zg (by omega) rfl
theorem Zso {g a : Int} (h1 : 1 ≤ g) (h2 : g ≤ 1073741824) (h3 : 1 ≤ a) (h4 : a < 1048576) : Zb4 g a N = some (.r0 2 (g * 1048576 + a) 0) := Zb h1 <| Zb h2 <| Zb h3 <| Zb (by omega) rfl
theorem skip {n m o lo : Int} (hF : ∀ k ∈ Fr, 0 ≤ k ∧ k < L.length) (hl : -1 ≤ lo) (hm : Fr.length ≤ 100000) (hs : ∀ j : Nat, lo < j → j < Fr.length → ¬ (L.getD (Fr.getD j 0).toNat RI.z).a4 = n) : ∀ (t : Nat) (v : Int) (fu : Nat), v = lo + t → v < Fr.length → ZaL (ZaH w L Fr n m o N) (t + fu) (.h1m0 v) = ZaL (ZaH w L Fr n m o N) fu (.h1m0 lo)
 | 0, v, fu, hv, _ => by rw [show v = lo by omega, Nat.zero_add]
 | t + 1, v, fu, hv, hlt => by
  have hj : v.toNat < Fr.length := by omega
  have hk : 0 ≤ Fr.getD v.toNat 0 ∧ Fr.getD v.toNat 0 < L.length := by
   rw [List.getD_eq_getElem?_getD, List.getElem?_eq_getElem hj, Option.getD_some]
   exact hF _ (List.getElem_mem _)
  have hst : ZaH w L Fr n m o N (.h1m0 v) = some (.inl (.h1m0 (v - 1))) := by
   show Za9 w L Fr n m o N v = _
   refine Zb (by omega) <| Zb hj <| Zb hk.1 <| Zb (by omega) <| Zb (hs v.toNat (by omega) hj) ?_
   rw [w64 (by omega) (by omega)]
  rw [show t + 1 + fu = (t + fu) + 1 by omega, Zbs hst]
  exact skip hF hl hm hs t (v - 1) fu (by omega) (by omega)
theorem pow16 {n : Int} (h0 : 0 ≤ n) (h : n ≤ 16) : IntKind.i64.wrap (1 * 2 ^ n.toNat) ≤ 65536 := by
 have : ∀ k, k ≤ 16 → (2 : Int) ^ k ≤ 65536 := by decide
 have h1 := this n.toNat (by omega)
 have h2 := Zj6 n.toNat
 rw [w64 (by omega) (by omega)]; omega
end
end Hl
end Ev
end Go.Proofs.Ytomkpfibofpkbaa
namespace Go.Proofs.Ytomkpfibofpkbaa
open Go.IntKind (i64)
open Go.RowKit
namespace Ev
set_option linter.unusedVariables false
set_option linter.unusedSimpArgs false
set_option maxRecDepth 100000
namespace Hl
section
variable {u i : Nat} {w : Int} {L : List PA} {Fr : List Int} {Md : List RF} {H : List RG} {V : List RF} {W : Nat → List Int} {N : Nat} {K Q : Int} {n m o : Int}
def good (n m o : Int) : Prop := 1 ≤ n ∧ n ≤ 16 ∧ 0 ≤ m ∧ m < i64.wrap (1 * 2 ^ n.toNat) ∧ 0 ≤ o ∧ o ≤ 63
instance (n m o : Int) : Decidable (good n m o) := by unfold good; infer_instance
theorem Zti (h : ¬ good n m o) (hw : 0 < w) : Zao n m o w H V W N = some (.r0 0 0 1 H V W) ∧ Zai w L Fr n m o N = some (.r0 1) := by
 unfold good at h
 constructor
 ·exact Zb hw <| ZI (fun _ => rfl) fun h1 => ZI (fun _ => rfl) fun h2 => ZI (fun _ => rfl) fun h3 => ZI (fun _ => rfl) fun h4 => ZI (fun _ => rfl) fun h5 => Zb (by omega) rfl
 ·exact Zlo (ZI (fun _ => rfl) fun h1 => ZI (fun _ => rfl) fun h2 => ZI (fun _ => rfl) fun h3 => ZI (fun _ => rfl) fun h4 => ZI (fun _ => rfl) fun h5 => Zb (by omega) rfl)
theorem ZlT (h : good n m o) (hF : Fr.length ≤ 1000) {r : Option ZD} (hr : ZaL (ZaH w L Fr n m o N) N (.h1m0 ((Fr.length : Int) - 1)) = r) : Zai w L Fr n m o N = r := by
 obtain ⟨h1, h2, h3, h4, h5, h6⟩ := h
 exact (Zgv (Zg (by omega) <| Zg (by omega) <| Zg (by omega) <| Zg (by omega) <| Zg (by omega) <| Zg (by omega) <| Zb (by omega) rfl)).trans hr
def mkP (a g n m o : Int) : PA := ⟨a, 2, g * 1048576 + a, g, n, m, 1, o, fr n.toNat m⟩
theorem Zsp {A B : List Int} {k : Nat} (hk : k < L.length) (hn : (L.getD k RI.z).a4 = n) (n1 : 1 ≤ n) (n2 : n ≤ 16) (m0 : 0 ≤ m) (m1 : m ≤ 65536) (g1 : 1 ≤ (L.getD k RI.z).a3) (g2 : (L.getD k RI.z).a3 ≤ 1000) (a1 : 1 ≤ (L.getD k RI.z).a0) (a2 : (L.getD k RI.z).a0 < 1048576) (hL : L.length ≤ 1000) (hF : Fr = A ++ (k : Int) :: B) (hl : Fr.length ≤ 1000) (hN : 2000 ≤ N) :
  ∃ R, ZaH w L Fr n m o N (.h1m0 (A.length : Int)) = some (.inr R) ∧ ((R = .r1 (L.set k (mkP (L.getD k RI.z).a0 ((L.getD k RI.z).a3 + 1) n m o)) 2 (((L.getD k RI.z).a3 + 1) * 1048576 + (L.getD k RI.z).a0) ∧ A ++ B = []) ∨ R = .r2 (L.set k (mkP (L.getD k RI.z).a0 ((L.getD k RI.z).a3 + 1) n m o)) (A ++ B) 2 (((L.getD k RI.z).a3 + 1) * 1048576 + (L.getD k RI.z).a0)) := by
 have hlen : Fr.length = A.length + (1 + B.length) := by rw [hF]; simp; omega
 have hget : Fr.getD A.length 0 = (k : Int) := by rw [hF]; simp
 have htake : Fr.take A.length = A := by rw [hF]; simp
 have hdrop : (Fr.drop ((A.length : Int) + 1).toNat).take (Fr.length - ((A.length : Int) + 1).toNat) = B := by
  rw [show ((A.length : Int) + 1).toNat = A.length + 1 by omega, hlen, show A.length + (1 + B.length) - (A.length + 1) = B.length by omega, hF, ← List.drop_drop]
  simp
 have hw : i64.wrap ((L.getD k RI.z).a3 + 1) = (L.getD k RI.z).a3 + 1 := w64 (by omega) (by omega)
 have hr := Zm3 (N := N) (g := (L.getD k RI.z).a3 + 1) (a := (L.getD k RI.z).a0) (by omega) (by omega) a1 a2
 have hf := Zm0 (a0 := n) (a1 := m) n1 n2 m0 m1 (show 20 ≤ N by omega)
 have hw2 : ∀ (Z : List Int), Zby w L Z (k : Int) (L.getD k RI.z).a0 2 (((L.getD k RI.z).a3 + 1) * 1048576 + (L.getD k RI.z).a0) ((L.getD k RI.z).a3 + 1) n m 1 o (fr n.toNat m) N = some .r0 := fun Z => Zg (by omega) <| Zb (by omega) <| Zb (by omega) <| Zb (by omega) rfl
 have hw1 : Zdl w L (k : Int) (L.getD k RI.z).a0 2 (((L.getD k RI.z).a3 + 1) * 1048576 + (L.getD k RI.z).a0) ((L.getD k RI.z).a3 + 1) n m 1 o (fr n.toNat m) N = some .r0 := Zg (by omega) <| Zb (by omega) <| Zb (by omega) <| Zb (by omega) rfl
 have hgo : ∀ {r}, Za9 w L Fr n m o N (A.length : Int) = r → ZaH w L Fr n m o N (.h1m0 (A.length : Int)) = r := fun h => h
 by_cases hA : A = []
 ·by_cases hB : B = []
  ·refine ⟨_, hgo ?_, .inl ⟨rfl, by rw [hA, hB]; rfl⟩⟩
   unfold Za9
   rw [Zbd, hget, Zbd, hw, htake, hdrop]
   exact Zb (by omega) <| Zb (by omega) <| Zb (by omega) <| Zb (by omega) <| Zg (fun h => h hn) <| Zb (by rw [hA]; rfl) <| Zb (by rw [hB]; rfl) <| Zi hr <| Zi hf <| Zi hw1 rfl
  ·refine ⟨_, hgo ?_, .inr rfl⟩
   have hB' : ¬ B.length = 0 := fun h => hB (List.eq_nil_of_length_eq_zero h)
   unfold Za9
   rw [Zbd, hget, Zbd, hw, htake, hdrop]
   refine Zb (by omega) <| Zb (by omega) <| Zb (by omega) <| Zb (by omega) <| Zg (fun h => h hn) <| Zb (by rw [hA]; rfl) <| Zg hB' <| Zb (by omega) <| Zi hr <| Zi hf <| Zi (hw2 B) ?_
   rw [hA]; rfl
 ·have hA' : ¬ A.length = 0 := fun h => hA (List.eq_nil_of_length_eq_zero h)
  by_cases hB : B = []
  ·refine ⟨_, hgo ?_, .inr rfl⟩
   unfold Za9
   rw [Zbd, hget, Zbd, hw, htake, hdrop]
   refine Zb (by omega) <| Zb (by omega) <| Zb (by omega) <| Zb (by omega) <| Zg (fun h => h hn) <| Zg hA' <| Zb (by omega) <| Zb (by rw [hB]; rfl) <| Zi hr <| Zi hf <| Zi (hw2 A) ?_
   rw [hB, List.append_nil]; rfl
  ·have hB' : ¬ B.length = 0 := fun h => hB (List.eq_nil_of_length_eq_zero h)
   refine ⟨_, hgo ?_, .inr rfl⟩
   unfold Za9
   rw [Zbd, hget, Zbd, hw, htake, hdrop]
   exact Zb (by omega) <| Zb (by omega) <| Zb (by omega) <| Zb (by omega) <| Zg (fun h => h hn) <| Zg hA' <| Zb (by omega) <| Zg hB' <| Zb (by omega) <| Zi hr <| Zi hf <| Zi (hw2 (A ++ B)) rfl
theorem Inv.alloc (I : Inv u i w L Fr Md H V W) (hi : i ≤ 59) (hN : 2000 ≤ N) (n m o : Int) :
  (∃ e, ¬ e = 0 ∧ Zao n m o w H V W N = some (.r0 0 0 e H V W) ∧ Zai w L Fr n m o N = some (.r0 e)) ∨
  (∃ Q H' V' W' L' Fr' R, Zao n m o w H V W N = some (.r0 2 Q 0 H' V' W') ∧ Zai w L Fr n m o N = some R ∧ ((R = .r1 L' 2 Q ∧ Fr' = []) ∨ R = .r2 L' Fr' 2 Q ∨ (R = .r3 L' 2 Q ∧ Fr' = Fr)) ∧ Inv u (i + 1) w L' Fr' (Md ++ [⟨2, Q⟩]) H' V' W') := by
 have wpos : 0 < w := by have := I.w1; omega
 by_cases hg : ¬ good n m o
 ·obtain ⟨h1, h2⟩ := Zti (w := w) (H := H) (V := V) (W := W) (N := N) (L := L) (Fr := Fr) hg wpos
  exact .inl ⟨1, by decide, h1, h2⟩
 have hg := Decidable.not_not.1 hg
 obtain ⟨g1, g2, g3, g4, g5, g6⟩ := id hg
 have hm := pow16 (n := n) (by omega) g2
 have hl := I.ln; have hfn := I.fn; have hs1 := I.sw; have hs2 := I.w2
 have hH : H.length = sz L := by rw [I.hh]; rfl
 have hV : V.length = sz L := by rw [I.vv]; exact ZfD I.ok
 have hn : (n.toNat : Int) = n := by omega
 have hWn := I.ww n.toNat (by omega)
 have hz := Zqu I.ok I.ne
 rcases Zry (p := fl4 L n.toNat) Fr with he | ⟨A, k', B, hF, hp, hB⟩
 ·-- none waits: at the end
  have hW0 : W n.toNat = [] := by rw [hWn]; unfold wf; rw [he]; rfl
  have hno : ∀ j : Nat, (-1 : Int) < j → j < Fr.length → ¬ (L.getD (Fr.getD j 0).toNat RI.z).a4 = n := fun j _ hj h => by
   have hm : Fr.getD j 0 ∈ Fr.filter (fl4 L n.toNat) := by
    rw [List.mem_filter]
    refine ⟨?_, ?_⟩
    ·rw [List.getD_eq_getElem?_getD, List.getElem?_eq_getElem hj, Option.getD_some]; exact List.getElem_mem _
    ·unfold fl4; rw [hn]; exact decide_eq_true h
   rw [he] at hm; cases hm
  have hsk : ∀ {r}, Za9 w L Fr n m o N (-1) = some (.inr r) → Zai w L Fr n m o N = some r := fun {r} h => by
   refine ZlT hg (by omega) ?_
   obtain ⟨fu, hfu⟩ : ∃ fu, N = Fr.length + (fu + 1) := ⟨N - Fr.length - 1, by omega⟩
   have := skip (w := w) (N := N) (m := m) (o := o) (n := n) (lo := -1) I.fk (by omega) (by omega) hno Fr.length ((Fr.length : Int) - 1) (fu + 1) (by omega) (by omega)
   rw [← hfu] at this
   rw [this]
   exact Zcm h
  have hu : ZeD w L Fr N = some (.r0 (sz L : Int)) := ZuH I.ok (by omega) (by omega) hN
  have hpu : Zah w H V W N = some (.r0 (sz L : Int)) := (Zb wpos rfl : Zah w H V W N = some (.r0 (H.length : Int))).trans (by rw [hH])
  have hprog : ∀ {r}, (if w < i64.wrap (i64.wrap ((sz L : Int) + n) + 1) then some (.r0 0 0 20 H V W : heap_Heap_AllocR) else ((ZaM 1 n m 1 o w H V W N).bind fun r => match r with
    | .r0 y11_0 => ((Zb4 1 (((H.length + 1 : Nat) : Int)) N).bind fun r => match r with
     | .r0 y12_0 y12_1 y12_2 => some (.r0 y12_0 y12_1 y12_2 ((H ++ List.replicate (i64.wrap (n + 1)).toNat (⟨0, 0, 0, 0, 0⟩ : RG)).set (i64.wrap (((H.length + 1 : Nat) : Int) - 1)).toNat (⟨1, n, m, 1, o⟩ : RG)) y11_0 W : heap_Heap_AllocR)))) = r → Zao n m o w H V W N = r := fun {r} h =>
   Zb wpos <| Zg (by omega) <| Zg (by omega) <| Zg (by omega) <| Zg (by omega) <| Zg (by omega) <| Zg (by omega) <| ZnS (by omega) (by omega) <| Zg (by rw [hW0]; decide) <| Zi hpu h
  have hw1 : i64.wrap (i64.wrap ((sz L : Int) + n) + 1) = sz L + n + 1 := by rw [w64 (x := (sz L : Int) + n) (by omega) (by omega), w64 (by omega) (by omega)]
  have hw2 : i64.wrap (w - (sz L : Int)) = w - sz L := w64 (by omega) (by omega)
  have hw3 : i64.wrap (n + 1) = n + 1 := w64 (by omega) (by omega)
  have hw4 : i64.wrap ((sz L : Int) + 1) = sz L + 1 := w64 (by omega) (by omega)
  rw [hw1, hw3] at hprog
  by_cases hfull : w < sz L + n + 1
  ·refine .inl ⟨20, by decide, hprog (Zb hfull rfl), hsk ?_⟩
   exact Zg (by decide) <| Zi hu <| Zb (by rw [hw2, hw3]; omega) rfl
  ·refine .inr ⟨1048576 + (sz L + 1), hd (L ++ [mkP (sz L + 1) 1 n m o]), vl (L ++ [mkP (sz L + 1) 1 n m o]), W, L ++ [mkP (sz L + 1) 1 n m o], Fr, .r3 (L ++ [mkP (sz L + 1) 1 n m o]) 2 (1048576 + (sz L + 1)), hprog (Zg hfull ?_), hsk ?_, .inr (.inr ⟨rfl, rfl⟩), ?_⟩
   ·have hgr : ZaM 1 n m 1 o w H V W N = some (.r0 (vl (L ++ [mkP (sz L + 1) 1 n m o]))) := by
     unfold ZaM
     rw [hw3]
     refine Zb (by omega) <| Zb (by omega) <| Zb (by omega) <| Zb (by omega) <| Zb (by omega) ?_
     have hrep : (V ++ List.replicate (n + 1).toNat (⟨0, 0⟩ : RF)) = (V ++ [⟨0, 0⟩]) ++ (List.replicate n.toNat ⟨0, 0⟩ ++ []) := by
      rw [show (n + 1).toNat = n.toNat + 1 by omega, List.replicate_succ]; simp
     have hres : vl (L ++ [mkP (sz L + 1) 1 n m o]) = (V ++ [⟨0, 0⟩]) ++ (fr n.toNat m ++ []) := by
      rw [ZfC, Zei, I.vv]; simp [vl, mkP]; rfl
     rw [hrep, hres]
     exact Zi (Zox (by omega) (by omega) (by rw [List.length_append]; simp; omega) (by simp; omega) (by omega) (by simp; omega) (by omega)) rfl
    refine Zi hgr <| Zi (Zso (by decide) (by decide) (by omega) (by omega)) ?_
    have e1 : (H ++ List.replicate (n + 1).toNat (⟨0, 0, 0, 0, 0⟩ : RG)).set (i64.wrap (((H.length + 1 : Nat) : Int) - 1)).toNat (⟨1, n, m, 1, o⟩ : RG) = hd (L ++ [mkP (sz L + 1) 1 n m o]) := by
     rw [w64 (by omega) (by omega), show (((H.length + 1 : Nat) : Int) - 1).toNat = H.length by omega, List.set_append_right _ _ (Nat.le_refl _), Nat.sub_self, show (n + 1).toNat = n.toNat + 1 by omega, List.replicate_succ, List.set_cons_zero, Zld, ZfS, I.hh]
     simp [hd, mkP]; exact ⟨rfl, .inr rfl⟩
    show some (heap_Heap_AllocR.r0 2 (1 * 1048576 + ((H.length + 1 : Nat) : Int)) 0 ((H ++ List.replicate (n + 1).toNat (⟨0, 0, 0, 0, 0⟩ : RG)).set (i64.wrap (((H.length + 1 : Nat) : Int) - 1)).toNat (⟨1, n, m, 1, o⟩ : RG)) _ W) = _
    rw [e1, show (1 * 1048576 + ((H.length + 1 : Nat) : Int)) = 1048576 + (sz L + 1) by omega]
   ·refine Zg (by decide) <| Zi hu <| Zg (by rw [hw2, hw3]; omega) ?_
    rw [hw4]
    refine Zi (Zm3 (by decide) (by decide) (by omega) (by omega)) <| Zi (Zm0 g1 g2 g3 (by omega) (by omega)) <| Zg (by have := I.ne; omega) <| Zb (by omega) ?_
    rw [show (1 : Int) * 1048576 + (sz L + 1) = 1048576 + (sz L + 1) by omega]
    rfl
   ·have hP : Pl (1 + sz L) (i + 2) (mkP (sz L + 1) 1 n m o) := ⟨by show (sz L : Int) + 1 = _; omega, g1, g2, by show ((fr n.toNat m).length : Int) = n; rw [Zja]; omega, rfl, rfl, by show (1 : Int) ≤ 1; omega, by show (1 : Int) ≤ _; omega, g3, ZnQ rfl⟩
    have hgl : ∀ j : Nat, j < L.length → (L ++ [mkP (sz L + 1) 1 n m o]).getD j RI.z = L.getD j RI.z := fun j hj => ZjN hj
    refine ⟨I.w1, I.w2, ?_, by simp, by simp; omega, rfl, rfl, ?_, by omega, fun j hj => ?_, fun q hq => ?_, by have := I.mn; simp; omega, fun x hx => ?_, by rw [Zle]; have := I.lwr; omega⟩
    ·have e : ((i + 1 : Nat) : Int) + 1 = i + 2 := by omega
     rw [e]
     exact Ok.join (I.ok.up (by omega)) hP trivial
    ·rw [Zle, ZdB]
     have : sz [] = 0 := rfl
     have : (mkP (sz L + 1) 1 n m o).a4.toNat = n.toNat := rfl
     omega
    ·have := I.fk j hj; simp; omega
    ·rw [I.ww q hq]
     unfold wf
     have hfe : Fr.filter (fl4 (L ++ [mkP (sz L + 1) 1 n m o]) q) = Fr.filter (fl4 L q) := List.filter_congr fun x hx => by
      unfold fl4
      rw [hgl x.toNat (by have := I.fk x hx; omega)]
     rw [hfe]
     exact List.map_congr_left fun x hx => by rw [hgl x.toNat (by have := I.fk x (List.mem_filter.1 hx).1; omega)]
    ·rcases List.mem_append.1 hx with hx | hx
     ·exact I.mb x hx
     ·rw [List.mem_singleton.1 hx]; show 1048576 + ((sz L : Int) + 1) ≤ _; omega
 ·-- a place that waits
  have hk' : 0 ≤ k' ∧ k' < L.length := I.fk k' (by rw [hF]; simp)
  obtain ⟨k, rfl⟩ : ∃ k : Nat, k' = (k : Int) := ⟨k'.toNat, by omega⟩
  have hk : k < L.length := by omega
  have hp4 : (L.getD k RI.z).a4 = n := by
   unfold fl4 at hp
   have := of_decide_eq_true hp
   rw [Zbd] at this
   omega
  obtain ⟨p1, p2, p3⟩ := I.at_ hk
  obtain ⟨i1, i2, i3⟩ := I.ix hk
  have a1 := p1.ad; have a2 := p1.fl; have a3 := p1.g1; have a4 := p1.g2
  have hBw : wf L B n.toNat = [] := by unfold wf; rw [hB]; rfl
  have hWk : W n.toNat = wf L A n.toNat ++ [(L.getD k RI.z).a0] := by
   rw [hWn, hF, Znv, ZnR, hp, hBw, Zbd]; rfl
  have hlw : lw W n.toNat = (L.getD k RI.z).a0 := by
   show (W n.toNat).getD ((W n.toNat).length - 1) 0 = _
   rw [hWk]; simp
  have hpw : pw W n.toNat = wf L A n.toNat := by
   show (W n.toNat).take ((W n.toNat).length - 1) = _
   rw [hWk]; simp
  have hiw : iw W n.toNat = sz (L.take k) := by
   show i64.wrap (lw W n.toNat - 1) = _
   rw [hlw]; exact i1
  have hhw : hw H W n.toNat = pl (L.getD k RI.z) := by
   show H.getD (iw W n.toNat).toNat RG.z = _
   rw [hiw]; exact i3
  have hwl : 0 < (W n.toNat).length := by rw [hWk]; simp
  have hwl2 : (W n.toNat).length ≤ 1000 := by rw [hWn]; have := Zqv L Fr n.toNat; omega
  have hgw : i64.wrap ((L.getD k RI.z).a3 + 1) = (L.getD k RI.z).a3 + 1 := w64 (by omega) (by omega)
  have hpl : Pl (1 + sz (L.take k)) (i + 2) (mkP (L.getD k RI.z).a0 ((L.getD k RI.z).a3 + 1) n m o) := ⟨a1, g1, g2, by show ((fr n.toNat m).length : Int) = n; rw [Zja]; omega, rfl, rfl, by show (1 : Int) ≤ (L.getD k RI.z).a3 + 1; omega, by show (L.getD k RI.z).a3 + 1 ≤ _; omega, g3, ZnQ rfl⟩
  have hsp := Ze3 hk
  have hsl : L.set k (mkP (L.getD k RI.z).a0 ((L.getD k RI.z).a3 + 1) n m o) = L.take k ++ mkP (L.getD k RI.z).a0 ((L.getD k RI.z).a3 + 1) n m o :: L.drop (k + 1) := by
   rw [List.set_eq_take_append_cons_drop, if_pos hk]
  have hvt : (vl (L.take k)).length = sz (L.take k) := by
   have hk'' := I.ok
   rw [hsp] at hk''
   exact ZfD hk''.split.1
  have hfill : Zbg (L.getD k RI.z).a0 ((L.getD k RI.z).a3 + 1) n m 1 o w H V (uw W n.toNat) N = some (.r0 (vl (L.set k (mkP (L.getD k RI.z).a0 ((L.getD k RI.z).a3 + 1) n m o)))) := by
   have e1 : V = (vl (L.take k) ++ [RF.z]) ++ ((L.getD k RI.z).a8 ++ vl (L.drop (k + 1))) := by
    rw [I.vv]
    conv => lhs; rw [hsp]
    rw [ZfC, Zei]; simp
   have e2 : vl (L.set k (mkP (L.getD k RI.z).a0 ((L.getD k RI.z).a3 + 1) n m o)) = (vl (L.take k) ++ [RF.z]) ++ (fr n.toNat m ++ vl (L.drop (k + 1))) := by
    rw [hsl, ZfC, Zei]; simp [mkP]
   rw [e1, e2]
   exact Zox (by omega) (by omega) (by rw [List.length_append, List.length_singleton]; omega) (by omega) g2 (by omega) (by omega)
  have J := I.set hk hpl hp4.symm rfl (V' := vl (L.set k (mkP (L.getD k RI.z).a0 ((L.getD k RI.z).a3 + 1) n m o))) rfl
  have hskj : ∀ j : Nat, (A.length : Int) < j → j < Fr.length → ¬ (L.getD (Fr.getD j 0).toNat RI.z).a4 = n := fun j h1 h2 h => by
   have hlen : Fr.length = A.length + (1 + B.length) := by rw [hF]; simp; omega
   have e : Fr.getD j 0 = B.getD (j - A.length - 1) 0 := by
    rw [hF, List.getD_eq_getElem?_getD, List.getElem?_append_right (by omega), show j - A.length = (j - A.length - 1) + 1 by omega, List.getElem?_cons_succ, ← List.getD_eq_getElem?_getD]
    rfl
   have hm : B.getD (j - A.length - 1) 0 ∈ B.filter (fl4 L n.toNat) := by
    rw [List.mem_filter]
    refine ⟨?_, ?_⟩
    ·rw [List.getD_eq_getElem?_getD, List.getElem?_eq_getElem (by omega), Option.getD_some]; exact List.getElem_mem _
    ·unfold fl4; rw [hn, ← e]; exact decide_eq_true h
   rw [hB] at hm; cases hm
  obtain ⟨R, hR, hRR⟩ := Zsp (w := w) (o := o) (A := A) (B := B) (Fr := Fr) hk hp4 g1 g2 g3 (by omega) a3 (by omega) (by omega) (by omega) (by omega) hF (by omega) hN
  have hdoc : Zai w L Fr n m o N = some R := by
   refine ZlT hg (by omega) ?_
   have hlen : Fr.length = A.length + (1 + B.length) := by rw [hF]; simp; omega
   obtain ⟨fu, hfu⟩ : ∃ fu, N = B.length + (fu + 1) := ⟨N - B.length - 1, by omega⟩
   have := skip (w := w) (N := N) (m := m) (o := o) (n := n) (lo := (A.length : Int)) I.fk (by omega) (by omega) hskj B.length ((Fr.length : Int) - 1) (fu + 1) (by omega) (by omega)
   rw [← hfu] at this
   rw [this]
   exact Zcm hR
  refine .inr ⟨((L.getD k RI.z).a3 + 1) * 1048576 + (L.getD k RI.z).a0, H.set (sz (L.take k)) (pl (mkP (L.getD k RI.z).a0 ((L.getD k RI.z).a3 + 1) n m o)), vl (L.set k (mkP (L.getD k RI.z).a0 ((L.getD k RI.z).a3 + 1) n m o)), uw W n.toNat, L.set k (mkP (L.getD k RI.z).a0 ((L.getD k RI.z).a3 + 1) n m o), A ++ B, R, ?_, hdoc, ?_, ?_⟩
  ·refine Zb wpos <| Zg (by omega) <| Zg (by omega) <| Zg (by omega) <| Zg (by omega) <| Zg (by omega) <| Zg (by omega) <| ZnS (by omega) (by omega) ?_
   show (if 0 < ((W n.toNat).length : Int) then (if ((W n.toNat).length : Int) - 1 ≤ 9223372036854775807 then (if 0 ≤ iw W n.toNat then (if (iw W n.toNat).toNat < H.length then ((Zbg (lw W n.toNat) (i64.wrap ((hw H W n.toNat).a0 + 1)) n m 1 o w H V (uw W n.toNat) N).bind fun r => match r with
    | .r0 y12_0 => ((Zb4 (i64.wrap ((hw H W n.toNat).a0 + 1)) (lw W n.toNat) N).bind fun r => match r with
     | .r0 y13_0 y13_1 y13_2 => some (.r0 y13_0 y13_1 y13_2 (H.set (iw W n.toNat).toNat ⟨i64.wrap ((hw H W n.toNat).a0 + 1), n, m, 1, o⟩) y12_0 (uw W n.toNat) : heap_Heap_AllocR))) else none) else none) else none) else _) = _
   rw [hhw, hiw, hlw, show i64.wrap ((pl (L.getD k RI.z)).a0 + 1) = (L.getD k RI.z).a3 + 1 from hgw, Zbd]
   exact Zb (by omega) <| Zb (by omega) <| Zb (by omega) <| Zb i2 <| Zi hfill <| Zi (Zso (by omega) (by omega) (by omega) (by omega)) rfl
  ·rcases hRR with ⟨h1, h2⟩ | h1
   ·exact .inl ⟨h1, h2⟩
   ·exact .inr (.inl h1)
  ·have hx4 : fl4 (L.set k (mkP (L.getD k RI.z).a0 ((L.getD k RI.z).a3 + 1) n m o)) = fl4 (L.set k (mkP (L.getD k RI.z).a0 ((L.getD k RI.z).a3 + 1) n m o)) := rfl
   refine { J with fn := ?_, fk := fun j hj => ?_, ww := fun q hq => ?_, mn := by have := I.mn; simp; omega, mb := fun x hx => ?_ }
   ·have hlen : Fr.length = A.length + (1 + B.length) := by rw [hF]; simp; omega
    rw [List.length_append]; omega
   ·refine J.fk j ?_
    rw [hF]
    rcases List.mem_append.1 hj with hj | hj
    ·exact List.mem_append_left _ hj
    ·exact List.mem_append_right _ (List.mem_cons_of_mem _ hj)
   ·have hset : ∀ Z, wf (L.set k (mkP (L.getD k RI.z).a0 ((L.getD k RI.z).a3 + 1) n m o)) Z q = wf L Z q := fun Z => Ztg (q := mkP (L.getD k RI.z).a0 ((L.getD k RI.z).a3 + 1) n m o) hk hp4.symm rfl Z q
    rw [hset, Znv]
    by_cases hq2 : q = n.toNat
    ·subst hq2
     show Zjx W n.toNat (pw W n.toNat) n.toNat = _
     rw [Zot, hpw, hBw, List.append_nil]
    ·show Zjx W n.toNat (pw W n.toNat) q = _
     have hfn : fl4 L q (k : Int) = false := by unfold fl4; rw [Zbd, hp4]; exact decide_eq_false (by omega)
     rw [ZmZ hq2, I.ww q hq, hF, Znv, ZnR, hfn]
     rfl
   ·rcases List.mem_append.1 hx with hx | hx
    ·exact I.mb x hx
    ·rw [List.mem_singleton.1 hx]; show ((L.getD k RI.z).a3 + 1) * 1048576 + (L.getD k RI.z).a0 ≤ _; omega
end
end Hl
end Ev
end Go.Proofs.Ytomkpfibofpkbaa
namespace Go.Proofs.Ytomkpfibofpkbaa
open Go.RowKit
namespace Ev
set_option linter.unusedVariables false
set_option linter.unusedSimpArgs false
set_option maxRecDepth 100000
namespace Hl
section
variable {u i : Nat} {w : Int} {L : List PA} {Fr : List Int} {Md : List RF} {H : List RG} {V : List RF} {W : Nat → List Int} {N : Nat} {K Q : Int} {a0 a1 a2 a3 a4 a6 a7 a8 a9 : Int} {b5 : Bool}
theorem tm {a : Int} {n : Nat} (h : 0 ≤ a) (hn : 0 < n) : 0 ≤ Int.tmod a (n : Int) ∧ (Int.tmod a (n : Int)).toNat < n := by
  rw [Int.tmod_eq_emod_of_nonneg h]
  have h1 := Int.emod_nonneg a (show (n : Int) ≠ 0 by omega)
  have h2 := Int.emod_lt_of_pos a (show (0 : Int) < n by omega)
  omega
theorem Ztj (hb : ∀ x ∈ Md, x.a1 ≤ 9223372036854775807) {k : Nat} (h : k < Md.length) : (Md.getD k RF.z).a1 ≤ 9223372036854775807 := by
  rw [List.getD_eq_getElem?_getD, List.getElem?_eq_getElem h, Option.getD_some]
  exact hb _ (List.getElem_mem _)
theorem Zvq (h4 : 0 ≤ a4 ∧ a4 ≤ 255) (h7 : a7 ≤ 9223372036854775807) (hb : ∀ x ∈ Md, x.a1 ≤ 9223372036854775807) : ∃ K Q, Zca a0 a1 a2 a3 a4 b5 a6 a7 a8 a9 w L Fr Md w H V W N = some (.r0 K Q) ∧ Q ≤ 9223372036854775807 := by
  by_cases hb5 : b5 = true
  · exact ⟨a6, a7, Zb hb5 rfl, h7⟩
  by_cases hm : Md.length = 0
  · exact ⟨a6, a7, Zg hb5 <| Zb (by omega) rfl, h7⟩
  · obtain ⟨t1, t2⟩ := tm h4.1 (show 0 < Md.length by omega)
    exact ⟨_, _, Zg hb5 <| Zg (by omega) <| Zb (by omega) <| Zb (by omega) <| Zb t1 <| Zb t2 rfl, Ztj hb t2⟩
theorem Zud (h4 : 0 ≤ a4 ∧ a4 ≤ 255) (h9 : a9 ≤ 9223372036854775807) (hb : ∀ x ∈ Md, x.a1 ≤ 9223372036854775807) : ∃ K Q, (∀ V, ZaC a0 a1 a2 a3 a4 b5 a6 a7 a8 a9 w L Fr Md w H V W N = some (.r0 K Q)) ∧ Q ≤ 9223372036854775807 := by
  by_cases h8 : a8 = 2
  · by_cases hb5 : b5 = true
    · exact ⟨a8, a9, fun V => Zb h8 <| Zb hb5 rfl, h9⟩
    by_cases hm : Md.length = 0
    · exact ⟨a8, a9, fun V => Zb h8 <| Zg hb5 <| Zg (by omega) rfl, h9⟩
    · obtain ⟨t1, t2⟩ := tm (show 0 ≤ a4 / 2 by omega) (show 0 < Md.length by omega)
      exact ⟨_, _, fun V => Zb h8 <| Zg hb5 <| Zb (by omega) <| Zb (by omega) <| Zb (by omega) <| Zb (by omega) <| Zb t1 <| Zb t2 rfl, Ztj hb t2⟩
  · exact ⟨a8, a9, fun V => Zg h8 rfl, h9⟩
theorem Inv.alloc_step (I : Inv u i w L Fr Md H V W) (hi : i ≤ 59) (hN : 2000 ≤ N) : ∃ L' Fr' Md' H' V' W', ((Zao a1 a2 a3 w H V W N).bind fun r => match r with
        | .r0 y3_0 y3_1 y3_2 y3_3 y3_4 y3_5 =>
          ((Zai w L Fr a1 a2 a3 N).bind fun r => match r with
          | .r0 y4_0 =>
            if y4_0 = (0 : Int) then
              if Md.length ≤ 100000 then
                if (y3_0 = (0 : Int) ∧ y3_1 = (0 : Int)) then
                  if y3_2 = y4_0 then
                    some (.r0 (true) L Fr ((Md ++ ([(⟨(0 : Int), (0 : Int)⟩ : RF)] : List RF))) (y3_3) (y3_4) (y3_5) : Zd)
                  else
                  some (.r0 (false) L Fr ((Md ++ ([(⟨(0 : Int), (0 : Int)⟩ : RF)] : List RF))) (y3_3) (y3_4) (y3_5) : Zd)
                else
                some (.r0 (false) L Fr ((Md ++ ([(⟨(0 : Int), (0 : Int)⟩ : RF)] : List RF))) (y3_3) (y3_4) (y3_5) : Zd)
              else
              none
            else
            if (y3_0 = (0 : Int) ∧ y3_1 = (0 : Int)) then
              if y3_2 = y4_0 then
                some (.r0 (true) L Fr Md (y3_3) (y3_4) (y3_5) : Zd)
              else
              some (.r0 (false) L Fr Md (y3_3) (y3_4) (y3_5) : Zd)
            else
            some (.r0 (false) L Fr Md (y3_3) (y3_4) (y3_5) : Zd)
          | .r1 y4_0 y4_1 y4_2 =>
            if Md.length ≤ 100000 then
              if (y3_0 = y4_1 ∧ y3_1 = y4_2) then
                if y3_2 = (0 : Int) then
                  some (.r0 (true) (y4_0) (([] : List Int)) ((Md ++ ([(⟨y4_1, y4_2⟩ : RF)] : List RF))) (y3_3) (y3_4) (y3_5) : Zd)
                else
                some (.r0 (false) (y4_0) (([] : List Int)) ((Md ++ ([(⟨y4_1, y4_2⟩ : RF)] : List RF))) (y3_3) (y3_4) (y3_5) : Zd)
              else
              some (.r0 (false) (y4_0) (([] : List Int)) ((Md ++ ([(⟨y4_1, y4_2⟩ : RF)] : List RF))) (y3_3) (y3_4) (y3_5) : Zd)
            else
            none
          | .r2 y4_0 y4_1 y4_2 y4_3 =>
            if Md.length ≤ 100000 then
              if (y3_0 = y4_2 ∧ y3_1 = y4_3) then
                if y3_2 = (0 : Int) then
                  some (.r0 (true) (y4_0) (y4_1) ((Md ++ ([(⟨y4_2, y4_3⟩ : RF)] : List RF))) (y3_3) (y3_4) (y3_5) : Zd)
                else
                some (.r0 (false) (y4_0) (y4_1) ((Md ++ ([(⟨y4_2, y4_3⟩ : RF)] : List RF))) (y3_3) (y3_4) (y3_5) : Zd)
              else
              some (.r0 (false) (y4_0) (y4_1) ((Md ++ ([(⟨y4_2, y4_3⟩ : RF)] : List RF))) (y3_3) (y3_4) (y3_5) : Zd)
            else
            none
          | .r3 y4_0 y4_1 y4_2 =>
            if Md.length ≤ 100000 then
              if (y3_0 = y4_1 ∧ y3_1 = y4_2) then
                if y3_2 = (0 : Int) then
                  some (.r0 (true) (y4_0) Fr ((Md ++ ([(⟨y4_1, y4_2⟩ : RF)] : List RF))) (y3_3) (y3_4) (y3_5) : Zd)
                else
                some (.r0 (false) (y4_0) Fr ((Md ++ ([(⟨y4_1, y4_2⟩ : RF)] : List RF))) (y3_3) (y3_4) (y3_5) : Zd)
              else
              some (.r0 (false) (y4_0) Fr ((Md ++ ([(⟨y4_1, y4_2⟩ : RF)] : List RF))) (y3_3) (y3_4) (y3_5) : Zd)
            else
            none
          )
        ) = some (.r0 true L' Fr' Md' H' V' W') ∧ Inv u (i + 1) w L' Fr' Md' H' V' W' := by
  have hm := I.mn
  rcases I.alloc hi hN a1 a2 a3 with ⟨e, he, h1, h2⟩ | ⟨Q, H', V', W', L', Fr', R, h1, h2, h3, J⟩
  · exact ⟨L, Fr, Md, H, V, W, Zi h1 <| Zi h2 <| Zg he <| Zb ⟨rfl, rfl⟩ <| Zb rfl rfl, I.up⟩
  · refine ⟨L', Fr', Md ++ [⟨2, Q⟩], H', V', W', Zi h1 <| Zi h2 ?_, J⟩
    rcases h3 with ⟨rfl, rfl⟩ | rfl | ⟨rfl, rfl⟩
    · exact Zb (by omega) <| Zb ⟨rfl, rfl⟩ <| Zb rfl rfl
    · exact Zb (by omega) <| Zb ⟨rfl, rfl⟩ <| Zb rfl rfl
    · exact Zb (by omega) <| Zb ⟨rfl, rfl⟩ <| Zb rfl rfl
theorem Inv.step (I : Inv u i w L Fr Md H V W) (hi : i ≤ 59) (hN : 2000 ≤ N) (h0 : 0 ≤ a0) (h4 : 0 ≤ a4 ∧ a4 ≤ 255) (h7 : a7 ≤ 9223372036854775807) (h9 : a9 ≤ 9223372036854775807) : ∃ L' Fr' Md' H' V' W', Zba a0 a1 a2 a3 a4 b5 a6 a7 a8 a9 w L Fr Md w H V W N = some (.r0 true L' Fr' Md' H' V' W') ∧ Inv u (i + 1) w L' Fr' Md' H' V' W' := by
  have wpos : 0 < w := by have := I.w1; omega
  obtain ⟨K, Q, hr, hQ⟩ := Zvq (a0 := a0) (a1 := a1) (a2 := a2) (a3 := a3) (a6 := a6) (a8 := a8) (a9 := a9) (b5 := b5) (w := w) (L := L) (Fr := Fr) (H := H) (V := V) (W := W) (N := N) h4 h7 I.mb
  obtain ⟨vK, vQ, hv, hvQ⟩ := Zud (a0 := a0) (a1 := a1) (a2 := a2) (a3 := a3) (a6 := a6) (a7 := a7) (a8 := a8) (b5 := b5) (w := w) (L := L) (Fr := Fr) (H := H) (W := W) (N := N) h4 h9 I.mb
  by_cases c0 : a0 % 8 = 0
  · obtain ⟨L', Fr', Md', H', V', W', h, J⟩ := I.alloc_step (a1 := a1) (a2 := a2) (a3 := a3) hi hN
    exact ⟨L', Fr', Md', H', V', W', Zi hr <| Zb h0 <| Zb c0 h, J⟩
  by_cases c1 : a0 % 8 = 1
  · obtain ⟨L', Fr', Md', H', V', W', h, J⟩ := I.alloc_step (a1 := a1) (a2 := a2) (a3 := a3) hi hN
    exact ⟨L', Fr', Md', H', V', W', Zi hr <| Zb h0 <| Zg c0 <| Zb c1 h, J⟩
  by_cases c2 : a0 % 8 = 2
  · rcases I.release (K := K) (Q := Q) hi hQ hN with ⟨e, h1, h2⟩ | ⟨H', L', W', Fr', h1, h2, J⟩
    · exact ⟨L, Fr, Md, H, V, W, Zi hr <| Zb h0 <| Zg c0 <| Zg c1 <| Zb c2 <| Zi h1 <| Zi h2 <| Zb rfl rfl, I.up⟩
    · exact ⟨L', Fr', Md, H', V, W', Zi hr <| Zb h0 <| Zg c0 <| Zg c1 <| Zb c2 <| Zi h1 <| Zi h2 <| Zb rfl rfl, J⟩
  by_cases c3 : a0 % 8 = 3
  · obtain ⟨a, b, e, h1, h2⟩ := I.load (K := K) (Q := Q) (by omega) hQ hN a1
    exact ⟨L, Fr, Md, H, V, W, Zi hr <| Zb h0 <| Zg c0 <| Zg c1 <| Zg c2 <| Zb c3 <| Zi h1 <| Zi h2 <| Zb ⟨rfl, rfl⟩ <| Zb rfl rfl, I.up⟩
  by_cases c4 : a0 % 8 = 4
  · obtain ⟨e, V', L', h1, h2, J⟩ := I.store (K := K) (Q := Q) (by omega) hQ hN a1 vK vQ hvQ
    exact ⟨L', Fr, Md, H, V', W, Zi hr <| Zb h0 <| Zg c0 <| Zg c1 <| Zg c2 <| Zg c3 <| Zb c4 <| Zi (hv V) <| Zi h1 <| Zi (hv V') <| Zi h2 <| Zb rfl rfl, J⟩
  by_cases c5 : a0 % 8 = 5
  · obtain ⟨e, V', L', h1, h2, J⟩ := I.store (K := K) (Q := Q) (by omega) hQ hN a1 vK vQ hvQ
    exact ⟨L', Fr, Md, H, V', W, Zi hr <| Zb h0 <| Zg c0 <| Zg c1 <| Zg c2 <| Zg c3 <| Zg c4 <| Zb c5 <| Zi (hv V) <| Zi h1 <| Zi (hv V') <| Zi h2 <| Zb rfl rfl, J⟩
  by_cases c6 : a0 % 8 = 6
  · have hgo : ∀ {r}, _ = some r → Zba a0 a1 a2 a3 a4 b5 a6 a7 a8 a9 w L Fr Md w H V W N = some r := fun {r} h => Zi hr <| Zb h0 <| Zg c0 <| Zg c1 <| Zg c2 <| Zg c3 <| Zg c4 <| Zg c5 <| Zb c6 h
    obtain ⟨e, H', L', p1, p2, J⟩ := I.put (K := K) (Q := Q) (by omega) hQ hN a2
    by_cases d1 : 8 ≤ a2
    · by_cases d2 : a2 % 2 = 0
      · rcases I.share (K := K) (Q := Q) (by omega) hQ hN with ⟨e, k, he, h1, h2⟩ | ⟨k, hk, hs, h1, h2⟩ | ⟨k, H', L', hk, hs, h1, h2, h3, J⟩
        · exact ⟨L, Fr, Md, H, V, W, hgo (Zb d1 <| Zb d2 <| Zi h1 <| Zi h2 <| Zb he <| Zb rfl rfl), I.up⟩
        · exact ⟨L, Fr, Md, H, V, W, hgo (Zb d1 <| Zb d2 <| Zi h1 <| Zi h2 <| Zg (fun h => h rfl) <| Zb (by omega) <| Zb (by omega) <| Zb (by rw [Zbd]; exact hs) <| Zb rfl rfl), I.up⟩
        · exact ⟨L', Fr, Md, H', V, W, hgo (Zb d1 <| Zb d2 <| Zi h1 <| Zi h2 <| Zg (fun h => h rfl) <| Zb (by omega) <| Zb (by omega) <| Zg (by rw [Zbd]; exact fun h => h hs) <| Zi h3 <| Zb rfl rfl), J⟩
      · exact ⟨L', Fr, Md, H', V, W, hgo (Zb d1 <| Zg d2 <| Zi p1 <| Zi p2 <| Zb rfl rfl), J⟩
    · exact ⟨L', Fr, Md, H', V, W, hgo (Zg d1 <| Zi p1 <| Zi p2 <| Zb rfl rfl), J⟩
  · have hf := I.fork (N := N) (by omega)
    have hst : ∀ {r}, _ = some r → Zba a0 a1 a2 a3 a4 b5 a6 a7 a8 a9 w L Fr Md w H V W N = some r := fun {r} h => Zi hr <| Zb h0 <| Zg c0 <| Zg c1 <| Zg c2 <| Zg c3 <| Zg c4 <| Zg c5 <| Zg c6 <| Zi hf h
    have hvo : Zb4 1 1 N = some (.r0 2 (1 * 1048576 + 1) 0) := Zso (by decide) (by decide) (by decide) (by decide)
    refine ⟨L, Fr, Md, H, V, W, hst ?_, I.up⟩
    rcases I.alloc hi hN 3 0 0 with ⟨e, he, h1, h2⟩ | ⟨Q, H', V', W', L', Fr', R, h1, h2, h3, J⟩
    · obtain ⟨e, V', L', q1, q2, J⟩ := I.store (K := 2) (Q := 1 * 1048576 + 1) (by omega) (by decide) hN 8 1 77 (by decide)
      exact Zi h1 <| Zb wpos <| Zi hvo <| Zi q1 rfl
    · obtain ⟨e, V', L', q1, q2, J⟩ := J.store (K := 2) (Q := 1 * 1048576 + 1) (by omega) (by decide) hN 8 1 77 (by decide)
      exact Zi h1 <| Zb wpos <| Zi hvo <| Zi q1 rfl
end
structure G (x : RH) : Prop where
  k : x.a0 = 2
  r : isR x.a1
  n : (x.a7.length : Int) = x.a3
  l : x.a7.length ≤ 16
  m : 0 ≤ x.a4
  f : ∀ f : Nat, f < x.a7.length → ((x.a7.getD f RF.z).a0 = 1 ∧ ¬ x.a4 / 2 ^ f % 2 = 1) ∨ ((x.a7.getD f RF.z).a0 = 2 ∧ ((x.a7.getD f RF.z).a1 = 0 ∨ isR (x.a7.getD f RF.z).a1) ∧ x.a4 / 2 ^ f % 2 = 1)
def Good : Int → List RH → Prop
  | _, [] => True
  | lo, x :: l => G x ∧ lo < x.a1 % 1048576 ∧ Good (x.a1 % 1048576) l
theorem Good.low : ∀ {l : List RH} {a b : Int}, a ≤ b → Good b l → Good a l
  | [], _, _, _, _ => trivial
  | _ :: _, _, _, h, ⟨h1, h2, h3⟩ => ⟨h1, Int.lt_of_le_of_lt h h2, h3⟩
theorem Zrz {g : Int} (hg : g ≤ 1073741824) : ∀ {L : List PA} {a : Int}, Ok g a L → a + sz L ≤ 1000000 → 1 ≤ a → Good (a - 1) (fl L)
  | [], _, _, _, _ => trivial
  | p :: L, a, h, hs, ha => by
    obtain ⟨hp, hL⟩ := h
    have h1 := hp.ad; have h2 := hp.f1; have h3 := hp.f2; have h4 := hp.fl; have h5 := hp.n; have h6 := hp.g1; have h7 := hp.g2
    rw [ZdB] at hs
    have ih := Zrz hg hL (by omega) (by omega)
    by_cases hd : p.a6 = 0
    · have e : fl (p :: L) = fl L := by simp [fl, hd]
      rw [e]
      exact ih.low (by omega)
    · have e : fl (p :: L) = ob p :: fl L := by simp [fl, hd]
      rw [e]
      have hr : isR p.a2 := ⟨by omega, by omega, by omega⟩
      refine ⟨⟨hp.k, hr, h4, by show p.a8.length ≤ 16; omega, hp.m0, fun f hf => hp.ft f hf⟩, ?_, ?_⟩
      · show a - 1 < p.a2 % 1048576; omega
      · refine ih.low ?_
        show p.a2 % 1048576 ≤ _; omega
theorem Good.get : ∀ {l : List RH} {lo : Int}, Good lo l → ∀ k, k < l.length → G (l.getD k RH.z) ∧ (0 < k → G (l.getD (k - 1) RH.z) ∧ (l.getD (k - 1) RH.z).a1 % 1048576 < (l.getD k RH.z).a1 % 1048576)
  | x :: l, lo, ⟨h1, h2, h3⟩, 0, _ => ⟨h1, fun h => by omega⟩
  | x :: y :: l, lo, ⟨h1, h2, h3⟩, 1, _ => ⟨h3.1, fun _ => ⟨h1, h3.2.1⟩⟩
  | x :: l, lo, ⟨h1, h2, h3⟩, k + 2, h => by
    have := h3.get (k + 1) (by simp at h ⊢; omega)
    exact ⟨this.1, fun _ => this.2 (by omega)⟩
section
variable {z : Int} {O : List RJ} {N i : Nat} {l : List RH} {L : List PA} {Fr : List Int} {Md : List RF} {H : List RG} {V : List RF} {W : Nat → List Int}
theorem ZuM {k v : Nat} (hk : k < l.length) (hx : G (l.getD k RH.z)) (hv : v < (l.getD k RH.z).a7.length) : Z8 z O N (.h3m0 i l k v L Fr Md H V W) = some (.inl (.h3m0 i l k (v + 1) L Fr Md H V W)) := by
  show ZbE z O N i l k v L Fr Md H V W = _
  have h1 := hx.l
  have h2 : 0 ≤ (l.getD k RH.z).a4 / 2 ^ v := Int.ediv_nonneg hx.m (Int.le_of_lt (Zj6 _))
  refine Zb hk <| Zb (by omega) ?_
  rcases hx.f v hv with ⟨f1, f2⟩ | ⟨f1, f2 | ⟨r1, r2, r3⟩, f3⟩
  · exact Zb f1 <| Zb (by omega) <| Zb (by omega) <| Zb h2 <| Zg f2 rfl
  · exact Zg (by omega) <| Zb f1 <| Zb f2 <| Zb (by omega) <| Zb (by omega) <| Zb h2 <| Zb f3 rfl
  · exact Zg (by omega) <| Zb f1 <| Zg (by omega) <| Zb r1 <| Zb (by omega) <| Zb r2 <| Zb r3 <| Zb (by omega) <| Zb (by omega) <| Zb h2 <| Zb f3 rfl
theorem Zr0 {k : Nat} (hl : l.length ≤ 1000) (hk : k < l.length) (hx : G (l.getD k RH.z)) : ∀ (m v n : Nat), v + m = (l.getD k RH.z).a7.length → ZaL (Z8 z O N) (n + (m + 1)) (.h3m0 i l k v L Fr Md H V W) = ZaL (Z8 z O N) n (.h2m0 i l (k + 1) L Fr Md H V W)
  | 0, v, n, hv => Zbs (show ZbE z O N i l k v L Fr Md H V W = _ from Zb hk <| Zg (by omega) <| Zb (by omega) rfl)
  | m + 1, v, n, hv => (Zbs (ZuM hk hx (by omega))).trans (Zr0 hl hk hx m (v + 1) n (by omega))
theorem ZuN {k : Nat} (hl : l.length ≤ 1000) (hk : k < l.length) (hx : G (l.getD k RH.z)) (hp : 0 < k → G (l.getD (k - 1) RH.z) ∧ (l.getD (k - 1) RH.z).a1 % 1048576 < (l.getD k RH.z).a1 % 1048576) : Z8 z O N (.h2m0 i l k L Fr Md H V W) = some (.inl (.h3m0 i l k 0 L Fr Md H V W)) := by
  show ZbD z O N i l k L Fr Md H V W = _
  refine Zb (by omega) <| Zg (fun h => h hx.n) <| ZI (fun h => ?_) fun _ => rfl
  obtain ⟨hy, ho⟩ := hp (by omega)
  obtain ⟨r1, r2, r3⟩ := hx.r
  obtain ⟨s1, s2, s3⟩ := hy.r
  exact Zb (by omega) <| Zb hy.k <| Zg (by omega) <| Zb s1 <| Zb (by omega) <| Zb s2 <| Zb s3 <| Zb hx.k <| Zg (by omega) <| Zb r1 <| Zb (by omega) <| Zb r2 <| Zb r3 <| Zg (by omega) rfl
theorem Zr1 {lo : Int} (hl : l.length ≤ 1000) (hi : i ≤ 100) (hg : Good lo l) : ∀ (m k : Nat), k + m = l.length → ∃ c, c ≤ 18 * m + 1 ∧ ∀ n, ZaL (Z8 z O N) (n + c) (.h2m0 i l k L Fr Md H V W) = ZaL (Z8 z O N) n (.h1m0 (i + 1) L Fr Md H V W)
  | 0, k, hk => ⟨1, by omega, fun n => Zbs (show ZbD z O N i l k L Fr Md H V W = _ from Zg (by omega) <| Zb (by omega) rfl)⟩
  | m + 1, k, hk => by
    obtain ⟨c, h1, h2⟩ := Zr1 hl hi hg m (k + 1) (by omega)
    obtain ⟨g1, g2⟩ := hg.get k (by omega)
    have := g1.l
    refine ⟨c + ((l.getD k RH.z).a7.length + 1) + 1, by omega, fun n => ?_⟩
    have e1 : ZaL (Z8 z O N) (n + (c + ((l.getD k RH.z).a7.length + 1) + 1)) (.h2m0 i l k L Fr Md H V W) = ZaL (Z8 z O N) (n + c + ((l.getD k RH.z).a7.length + 1)) (.h3m0 i l k 0 L Fr Md H V W) := by
      rw [show n + (c + ((l.getD k RH.z).a7.length + 1) + 1) = (n + c + ((l.getD k RH.z).a7.length + 1)) + 1 by omega]
      exact Zbs (ZuN hl (by omega) g1 g2)
    exact e1.trans ((Zr0 hl (by omega) g1 _ 0 (n + c) (by omega)).trans (h2 n))
def opOk (y : RJ) : Prop := 0 ≤ y.a0 ∧ (0 ≤ y.a4 ∧ y.a4 ≤ 255) ∧ y.a7 ≤ 9223372036854775807 ∧ y.a9 ≤ 9223372036854775807
theorem ZlU {w : Int} (hw : IntKind.i64.wrap (17 + z) = w) (hN : 2000 ≤ N) (hO : ∀ y ∈ O, opOk y) : ∀ (m i n : Nat) (L : List PA) (Fr : List Int) (Md : List RF) (H : List RG) (V : List RF) (W : Nat → List Int), i + m = 60 → 1200 * m < n → Inv 0 i w L Fr Md H V W → ZaL (Z8 z O N) n (.h1m0 i L Fr Md H V W) = some (.r0 true)
  | 0, i, n, L, Fr, Md, H, V, W, hi, hn, I => by
    obtain ⟨n, rfl⟩ : ∃ m, n = m + 1 := ⟨n - 1, by omega⟩
    exact Zcm (show ZaF z O N i L Fr Md H V W = _ from ZI (fun _ => Zg (by omega) rfl) fun _ => rfl)
  | m + 1, i, n, L, Fr, Md, H, V, W, hi, hn, I => by
    by_cases hl : i < O.length
    · have ho : opOk (O.getD i RJ.z) := by
        rw [List.getD_eq_getElem?_getD, List.getElem?_eq_getElem hl, Option.getD_some]
        exact hO _ (List.getElem_mem _)
      obtain ⟨o0, o4, o7, o9⟩ := ho
      have wpos : 0 < w := by have := I.w1; omega
      have I' : Inv (sz L) i w L Fr Md H V W := { I with lwr := Nat.le_refl _ }
      obtain ⟨L', Fr', Md', H', V', W', h1, J⟩ := I'.step (a1 := (O.getD i RJ.z).a1) (a2 := (O.getD i RJ.z).a2) (a3 := (O.getD i RJ.z).a3) (b5 := (O.getD i RJ.z).a5) (a6 := (O.getD i RJ.z).a6) (a8 := (O.getD i RJ.z).a8) (by omega) hN o0 o4 o7 o9
      have j1 := J.sw; have j2 := J.w2; have j3 := J.ln; have j4 := J.lwr
      have hU : Zah w H V W N = some (.r0 (sz L : Int)) := (Zb wpos rfl : Zah w H V W N = some (.r0 (H.length : Int))).trans (by rw [I.hh]; rfl)
      have hU' : Zah w H' V' W' N = some (.r0 (sz L' : Int)) := (Zb wpos rfl : Zah w H' V' W' N = some (.r0 (H'.length : Int))).trans (by rw [J.hh]; rfl)
      have hP : Zay w H' V' W' N = some (obP (fl L')) := by rw [J.hh, J.vv]; exact ZuJ (g := ((i + 1 : Nat) : Int) + 1) wpos (by omega) J.ok (by omega) (by omega) hN
      have hs : Z8 z O N (.h1m0 i L Fr Md H V W) = some (.inl (.h2m0 i (fl L') 0 L' Fr' Md' H' V' W')) := by
        show ZaF z O N i L Fr Md H V W = _
        unfold ZaF
        rw [hw]
        refine Zb (by omega) <| Zb (by omega) <| Zi hU <| Zi h1 <| Zi hU' <| Zg (by omega) <| Zi hU' <| Zg (by omega) ?_
        cases h : fl L' with
        | nil => rw [h] at hP; exact Zi hP rfl
        | cons x l => rw [h] at hP; exact Zi hP rfl
      have hlen := Ztf L'
      obtain ⟨c, c1, c2⟩ := Zr1 (z := z) (O := O) (N := N) (i := i) (L := L') (Fr := Fr') (Md := Md') (H := H') (V := V') (W := W') (l := fl L') (by omega) (by omega) (Zrz (g := ((i + 1 : Nat) : Int) + 1) (by omega) J.ok (by omega) (by omega)) (fl L').length 0 (by omega)
      obtain ⟨n', rfl⟩ : ∃ n', n = (n' + c) + 1 := ⟨n - 1 - c, by omega⟩
      refine (Zbs hs).trans ((c2 n').trans (ZlU hw hN hO m (i + 1) n' L' Fr' Md' H' V' W' (by omega) (by omega) { J with lwr := Nat.zero_le _ }))
    · obtain ⟨n, rfl⟩ : ∃ m, n = m + 1 := ⟨n - 1, by omega⟩
      exact Zcm (show ZaF z O N i L Fr Md H V W = _ from Zg (by omega) rfl)
theorem Zr2 : ∀ (l : List (List Int)) (n : Nat), (∀ x ∈ l, x = []) → wOf l n = []
  | [], _, _ => rfl
  | x :: l, 0, h => h x (List.mem_cons_self ..)
  | x :: l, n + 1, h => Zr2 l n fun y hy => h y (List.mem_cons_of_mem _ hy)
theorem bounds (z0 : Int) (L1 : List RJ) (N : Nat) (hN : 100000 ≤ N) (hz : 0 ≤ z0 ∧ z0 ≤ 255) (hO : ∀ y ∈ L1, opOk y) : ZeZ z0 L1 N = some (.r0 true) := by
  obtain ⟨hz0, hz1⟩ := hz
  have hw : IntKind.i64.wrap (17 + z0) = 17 + z0 := w64 (by omega) (by omega)
  have hw17 : IntKind.i64.wrap (16 + 1) = 17 := w64 (by decide) (by decide)
  have hw0 : IntKind.i64.wrap (1 - 1) = 0 := w64 (by decide) (by decide)
  have hgr : ZbB 1 16 255 2 0 (17 + z0) N = some (.r0 (vl [⟨1, 2, 1 * 1048576 + 1, 1, 16, 255, 2, 0, fr 16 255⟩])) := by
    unfold ZbB
    rw [hw17]
    refine Zb (by decide) <| Zb (by decide) ?_
    have e1 : List.replicate (17 : Int).toNat (⟨0, 0⟩ : RF) = [⟨0, 0⟩] ++ (List.replicate 16 ⟨0, 0⟩ ++ []) := rfl
    have e2 : vl [⟨1, 2, 1 * 1048576 + 1, 1, 16, 255, 2, 0, fr 16 255⟩] = [⟨0, 0⟩] ++ (fr (16 : Int).toNat 255 ++ []) := rfl
    rw [e1, e2]
    exact Zi (ZuG (by decide) (by decide) rfl (by simp) (by decide) (by simp) (by omega)) rfl
  have hn1 : ZdP (17 + z0) N = some (.r1 (vl [⟨1, 2, 1 * 1048576 + 1, 1, 16, 255, 2, 0, fr 16 255⟩])) := Zg (by omega) <| Zg (by omega) <| Zi hgr rfl
  have hn2 : Zcj (17 + z0) N = some (.r1 [⟨1, 2, 1 * 1048576 + 1, 1, 16, 255, 2, 0, fr 16 255⟩]) := Zg (by omega) <| Zg (by omega) <| Zi (Zm3 (by decide) (by decide) (by decide) (by decide)) <| Zi (Zm0 (by decide) (by decide) (by decide) (by decide) (by omega)) rfl
  unfold ZeZ Zdm
  rw [hw]
  refine (Zgv (Zb (by omega) <| Zb (by omega) <| Zi hn1 <| Zi hn2 rfl)).trans ?_
  rw [hw17, hw0]
  refine ZlU hw (by omega) hO 60 0 N _ _ _ _ _ _ rfl (by omega) ?_
  have hs : sz [(⟨1, 2, 1 * 1048576 + 1, 1, 16, 255, 2, 0, fr 16 255⟩ : PA)] = 17 := rfl
  refine ⟨by omega, by omega, ⟨⟨rfl, by decide, by decide, by show ((fr 16 255).length : Int) = 16; rw [Zja]; rfl, rfl, rfl, by decide, by decide, by decide, ZnQ (p := ⟨1, 2, 1 * 1048576 + 1, 1, 16, 255, 2, 0, fr 16 255⟩) rfl⟩, trivial⟩, by simp, by simp, rfl, rfl, by rw [hs]; omega, by simp, fun k hk => by simp at hk, fun n hn => ?_, by simp, fun x hx => by simp at hx, Nat.zero_le _⟩
  rw [Zth]
  exact Zr2 _ n fun x hx => by simp at hx; exact hx
end
end Hl
end Ev
end Go.Proofs.Ytomkpfibofpkbaa
/- A region that draws its order, whose first operations only read (and make memory in calls), and whose last ones, in a forced order among themselves, make and write new memory: but these may come up early. -/
namespace Go.Proofs.Ytomkpfibofpkbaa
open Go.RowKit

section
variable {P : Program}

def Calm (P : Program) (W : World) (o : Oper) (a : Act) (v : Value) : Prop :=
 ∀ w, Below W.heap.size W w → o.quietAt P a (fun w' => Below w.heap.size w w') w v

def YieldsC (P : Program) (ops : Array Oper) (W : World) (o : Oper) (v : Value) (a : Act) : Prop :=
 (Region.wanted o (yielded ops a.tmps) = true ∧ Calm P W o a v) ∨ (Region.wanted o (yielded ops a.tmps) = false ∧ v = undef)
theorem Zo1 {a b c : World} (h : Below a.heap.size a b) (k : Below b.heap.size b c) : Below a.heap.size a c := h.trans (k.mono h.size)

def Closed (md : Region.Mode) (ops : Array Oper) (listed : Array Bool) : Prop :=
 ∀ j oj, ops[j]? = some oj → listed.getD j false = true → ∀ e ∈ oj.after, Region.binds md e = true → listed.getD e.on false = true
def Zqw (md : Region.Mode) (ops : Array Oper) : Nat → Nat → Nat → Bool
 | 0, _, _ => false
 | f + 1, t, i => Region.waitsFor md ops t i || (List.range ops.size).any fun k => Region.waitsFor md ops t k && Zqw md ops f k i
theorem Closed.waits {md : Region.Mode} {ops : Array Oper} {listed : Array Bool} (h : Closed md ops listed) : ∀ (f t i : Nat), listed.getD t false = true → Zqw md ops f t i = true → listed.getD i false = true
 | 0, _, _, _, hw => by cases hw
 | f + 1, t, i, ht, hw => by
  simp only [Zqw, Bool.or_eq_true, List.any_eq_true, Bool.and_eq_true] at hw
  rcases hw with hw | ⟨k, _, hw, hr⟩
  ·obtain ⟨o, ho, e, he, hb, rfl⟩ := Region.waitsFor_spec hw
   exact h t o ho ht e he hb
  ·obtain ⟨o, ho, e, he, hb, rfl⟩ := Region.waitsFor_spec hw
   exact h.waits f e.on i (h t o ho ht e he hb) hr

theorem YieldsC.wpOp {ops : Array Oper} {W : World} {i : Nat} {o : Oper} {v : Value} {a : Act} {w : World} (hi : ops[i]? = some o) (hy : YieldsC P ops W o v a) (hb : Below W.heap.size W w)
  {K : Act → World → Prop} {Q : Exit → Act → World → Prop} (h : ∀ w', Below w.heap.size w w' → K (a.put o.dst v) w') : wpOp P ops Q i K a w := by
 unfold Go.wpOp
 simp only [hi]
 rcases hy with ⟨hw, hv⟩ | ⟨hw, rfl⟩
 ·simp only [hw, if_true]
  exact .inl (Oper.wp_of_quiet (C := fun w' => Below w.heap.size w w') (K := fun a' => a' = a.put o.dst v) (Below.refl _ _) (fun a' w' hw' ha => by subst ha; exact h w' hw')
   ⟨v, fun w1 hw1 => by
    have h1 := hv w1 (Zo1 hb hw1)
    unfold Oper.quietAt at h1 ⊢
    generalize (execOp a.eval o).run P w1 = r at *
    cases r with
    | ok n w' =>
     cases n <;> simp only [Oper.quietUpon] at h1 ⊢
     case value u => exact h1
     case skip => exact h1
     case enter f args => exact ⟨h1.1, h1.2.mono fun e w2 ⟨he, hb2⟩ => ⟨he, Zo1 hw1 hb2⟩⟩
    | halt x w' => simp only [Oper.quietUpon] at h1, rfl⟩)
 ·simp only [hw, Bool.false_eq_true, if_false]
  exact h w (Below.refl _ _)

end
theorem Has.grown {W W' : World} {b : Nat} {cs : List Value} {g : Nat} (h : Has W b cs) (hg : W.grownBy W' (some g)) (hne : b ≠ g) : Has W' b cs := by
 have e : W'.heap[b]? = W.heap[b]? := hg.block b h.1 (fun e => hne (by injection e))
 exact ⟨Nat.lt_of_lt_of_le h.1 hg.size, fun i v hi => ⟨(World.cell?_of_block (a := ⟨b, i, none⟩) e).trans (h.2 i v hi).1, (World.frozen?_of_block (a := ⟨b, i, none⟩) e).trans (h.2 i v hi).2⟩⟩
end Go.Proofs.Ytomkpfibofpkbaa
/- The law HeapBounds, for every input. -/
namespace Go.Proofs.Ytomkpfibofpkbaa
open Go.IntKind (i64)
open Go.ChangeShapes Go.WideShapes Go.ChangeAt Go.RowKit
namespace Ev
namespace HeapBounds
set_option linter.unusedVariables false
def el0R (x : RJ) : Prop := (IntKind.u8.min ≤ x.a0 ∧ x.a0 ≤ IntKind.u8.max) ∧ (i64.min ≤ x.a1 ∧ x.a1 ≤ i64.max) ∧ (i64.min ≤ x.a2 ∧ x.a2 ≤ i64.max) ∧ (i64.min ≤ x.a3 ∧ x.a3 ≤ i64.max) ∧ (IntKind.u8.min ≤ x.a4 ∧ x.a4 ≤ IntKind.u8.max) ∧ (i64.min ≤ x.a6 ∧ x.a6 ≤ i64.max) ∧ (i64.min ≤ x.a7 ∧ x.a7 ≤ i64.max) ∧ (i64.min ≤ x.a8 ∧ x.a8 ≤ i64.max) ∧ (i64.min ≤ x.a9 ∧ x.a9 ≤ i64.max)
theorem el0 {H : Type} {enc : TypeId × Value → H} {w : World} {cs : List Value} (hl : cs.length = 10) (h : Trd enc Try.prog w 43 cs) : ∃ x : RJ, DecL w cs (RE.cel x) ∧ el0R x := by
 have h0 := Zvf (by kernel_rfl : Try.prog.cellsOf 43 = 10) hl h
 have h1 := Zcz 0 1 10 Try.underlying43 h0 0 (te := 5) (o' := 0) (by kernel_rfl) rfl (by kernel_rfl) (by kernel_rfl) (by decide)
 obtain ⟨x0, e0, b0⟩ := Zf3 Try.underlying5 (by kernel_rfl) h1
 have h2 := Zcz 1 1 10 Try.underlying43 h0 1 (te := 3) (o' := 1) (by kernel_rfl) rfl (by kernel_rfl) (by kernel_rfl) (by decide)
 obtain ⟨x1, e1, b1⟩ := Zf3 Try.underlying3 (by kernel_rfl) h2
 have h3 := Zcz 2 1 10 Try.underlying43 h0 2 (te := 3) (o' := 2) (by kernel_rfl) rfl (by kernel_rfl) (by kernel_rfl) (by decide)
 obtain ⟨x2, e2, b2⟩ := Zf3 Try.underlying3 (by kernel_rfl) h3
 have h4 := Zcz 3 1 10 Try.underlying43 h0 3 (te := 3) (o' := 3) (by kernel_rfl) rfl (by kernel_rfl) (by kernel_rfl) (by decide)
 obtain ⟨x3, e3, b3⟩ := Zf3 Try.underlying3 (by kernel_rfl) h4
 have h5 := Zcz 4 1 10 Try.underlying43 h0 4 (te := 5) (o' := 4) (by kernel_rfl) rfl (by kernel_rfl) (by kernel_rfl) (by decide)
 obtain ⟨x4, e4, b4⟩ := Zf3 Try.underlying5 (by kernel_rfl) h5
 have h6 := Zcz 5 1 10 Try.underlying43 h0 5 (te := 4) (o' := 5) (by kernel_rfl) rfl (by kernel_rfl) (by kernel_rfl) (by decide)
 obtain ⟨x5, e5⟩ := Zu5 Try.underlying4 (by kernel_rfl) h6
 have h7 := Zcz 6 2 10 Try.underlying43 h0 6 (te := 41) (o' := 6) (by kernel_rfl) rfl (by kernel_rfl) (by kernel_rfl) (by decide)
 have h8 := Zcz 0 1 2 Try.underlying41 h7 0 (te := 39) (o' := 6) (by kernel_rfl) rfl (by kernel_rfl) (by kernel_rfl) (by decide)
 obtain ⟨x6, e6, b6⟩ := Zf3 Try.underlying39 (by kernel_rfl) h8
 have h9 := Zcz 1 1 2 Try.underlying41 h7 1 (te := 3) (o' := 7) (by kernel_rfl) rfl (by kernel_rfl) (by kernel_rfl) (by decide)
 obtain ⟨x7, e7, b7⟩ := Zf3 Try.underlying3 (by kernel_rfl) h9
 have h10 := Zcz 8 2 10 Try.underlying43 h0 7 (te := 41) (o' := 8) (by kernel_rfl) rfl (by kernel_rfl) (by kernel_rfl) (by decide)
 have h11 := Zcz 0 1 2 Try.underlying41 h10 0 (te := 39) (o' := 8) (by kernel_rfl) rfl (by kernel_rfl) (by kernel_rfl) (by decide)
 obtain ⟨x8, e8, b8⟩ := Zf3 Try.underlying39 (by kernel_rfl) h11
 have h12 := Zcz 1 1 2 Try.underlying41 h10 1 (te := 3) (o' := 9) (by kernel_rfl) rfl (by kernel_rfl) (by kernel_rfl) (by decide)
 obtain ⟨x9, e9, b9⟩ := Zf3 Try.underlying3 (by kernel_rfl) h12
 refine ⟨(⟨x0, x1, x2, x3, x4, x5, x6, x7, x8, x9⟩ : RJ), Zu4 (by rw [hl, Enc.clen]; rfl) (fun j y hy => ?_), ⟨b0, b1, b2, b3, b4, b6, b7, b8, b9⟩⟩
 have := (Zec (w := w) (k := 0) e0 .k (Zec (w := w) (k := 1) e1 .i (Zec (w := w) (k := 2) e2 .i (Zec (w := w) (k := 3) e3 .i (Zec (w := w) (k := 4) e4 .k (Zec (w := w) (k := 5) e5 .b (Zec (w := w) (k := 6) e6 .i (Zec (w := w) (k := 7) e7 .i (Zec (w := w) (k := 8) e8 .i (Zec (w := w) (k := 9) e9 .i (Zve (w := w)))))))))))) j y hy
 simpa using this
theorem own : ownKnob Try.prog.godebug = none := by kernel_rfl
set_option maxRecDepth 100000 in
theorem lifted (os : Os) (started : os.Started) (H : Type) (enc : TypeId × Value → H) :
  ReturnsInHanded {} Try.checked os 4 .any (Rows.heapBoundsSpec.pre6 enc Try.prog Try.f4 Rows.heapBoundsRow.domain false) (Rows.heapBoundsSpec.post enc Try.prog Try.f4 false true false false) := by
 refine ZsK (C := Try.checked) own started (by kernel_rfl) Try.func4 rfl rfl Try.underlying4 ?_ (by kernel_rfl) (by kernel_rfl)
  (ChangeSpec.witness6 (enc := enc) (C := Try.checked) false ⟨#[], #[.int .u8 0, .slice none 0 0], []⟩ 8 (by kernel_rfl) (by kernel_rfl) (by kernel_rfl) (by kernel_rfl)) ?_
 ·intro ds hlen
  have hlen : ds.length = 2 := hlen.trans (by kernel_rfl)
  match ds, hlen with
  | [_, _], _ => rfl
 intro W base args ds p hval hA hlt hsz
 rw [Try.params4] at hA hval
 obtain ⟨v0, vs0, d0, ds0, p0, q0, hargs, rfl, rfl, h0, r0⟩ := trodAll_cons hA
 obtain ⟨v1, vs1, d1, ds1, p1, q1, rfl, rfl, rfl, h1, r1⟩ := trodAll_cons r0
 obtain ⟨rfl, rfl, rfl⟩ := trodAll_nil r1
 obtain rfl : args = #[v0, v1] := by cases args; simp_all
 obtain ⟨z0, rfl, w0⟩ := Zsd (k := .u8) (by kernel_rfl) (Zse (by kernel_rfl) (hval 0 5 v0 rfl rfl))
 obtain ⟨a1, l1, c1, rfl⟩ := Go.WideShapes.okWide_slice Try.underlying22 (hval 1 22 v1 rfl rfl)
 obtain ⟨L1, u1, e1, D1, n1, m1⟩ := ZsV (E := RE) (Q := el0R) Try.underlying22 (by kernel_rfl) (by decide) (fun _ => el0) (Zu6 h1)
 obtain rfl : u1 = .slice a1 l1 c1 := by have := e1; simp [Value.cells] at this; exact this.symm
 exact Zva (ZiZ z0 L1 100000 _ (Hl.bounds z0 L1 100000 (by decide) (by
  obtain ⟨q0, q1⟩ := w0
  have e1 : IntKind.u8.min = 0 := by decide
  have e2 : IntKind.u8.max = 255 := by decide
  omega) (fun y hy => by
  obtain ⟨q0, q1, q2, q3, q4, q5, q6, q7, q8⟩ := m1 y hy
  have e1 : IntKind.u8.min = 0 := by decide
  have e2 : IntKind.u8.max = 255 := by decide
  have e3 : i64.max = 9223372036854775807 := by decide
  unfold Hl.opOk; omega))) (Zp9 (.atom rfl) (Zp9 (show VR (ιMk W) (ms RE L1) _ from D1.vr) Zut)) rfl
theorem over : Rows.heapBoundsRow.holds Try.pinned (OpenSpec.ofChange Rows.heapBoundsSpec) :=
 OpenClaim.holds_of_wide 4 Try.f4 rfl rfl rfl rfl rfl rfl rfl ⟨rfl, rfl, rfl, rfl, rfl⟩ rfl rfl rfl rfl rfl (by kernel_rfl) Try.func4 (by kernel_rfl)
  (of_decide_eq_true (by kernel_rfl)) (by unfold Func.isWrapper; first | (rw [if_pos (by decide +kernel)]; kernel_rfl) | (rw [if_neg (by decide +kernel)]; exact ⟨rfl, rfl⟩))
  (fun os started H enc _ => lifted os started H enc)
theorem proved : Rows.HeapBoundsSaid := over
#print axioms proved
end HeapBounds
end Ev
end Go.Proofs.Ytomkpfibofpkbaa
