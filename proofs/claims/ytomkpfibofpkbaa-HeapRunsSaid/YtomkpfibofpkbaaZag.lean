/- The law HeapRuns, for every input. -/
import Derived.Test.YtomkpfibofpkbaaZaf
import Derived.Test.YtomkpfibofpkbaaZac
import Derived.StillTail
import Derived.OrdersHeld
import Derived.WideBlind
import Derived.Test.YtomkpfibofpkbaaZad
set_option linter.unusedSimpArgs false
set_option linter.unusedVariables false
/- HeapRuns: more calls, of the program and of the document. -/
namespace Go.Proofs.Ytomkpfibofpkbaa
open Go.IntKind (i64)
open Go.RowKit
namespace Ev
set_option linter.unusedVariables false
set_option linter.unusedSimpArgs false
set_option maxRecDepth 100000
namespace Hl
section
variable {i : Nat} {w : Int} {L : List PA} {Fr : List Int} {Md : List RF} {H : List RG} {V : List RF} {W : Nat → List Int} {N : Nat} {K Q : Int}
theorem Zbp (k : Nat) : ((k : Int)).toNat = k := by omega
theorem Inv.fld (I : Inv i w L Fr Md H V W) (hi : i ≤ 60) (hQ : Q ≤ 9223372036854775807) (hN : 2000 ≤ N) (f : Int) :
  (∃ e x k, ¬ e = 0 ∧ Zal K Q f w H V W N = some (.r0 x e) ∧ Zax w L Fr K Q N = some (.r0 k e)) ∨
  (∃ (k : Nat) (x : Int), k < L.length ∧ Zal K Q f w H V W N = some (.r0 x 22) ∧ Zax w L Fr K Q N = some (.r0 (k : Int) 0) ∧ (f < 0 ∨ (L.getD k RI.z).a4 ≤ f)) ∨
  (∃ k : Nat, k < L.length ∧ Zal K Q f w H V W N = some (.r0 (L.getD k RI.z).a0 0) ∧ Zax w L Fr K Q N = some (.r0 (k : Int) 0) ∧ 0 ≤ f ∧ f < (L.getD k RI.z).a4) := by
 have hw : 0 < w := by have := I.w1; omega
 rcases I.get (K := K) (Q := Q) hi hQ hN with ⟨e, x, k, he, h1, h2⟩ | ⟨k, hk, h1, h2, h3⟩
 ·exact .inl ⟨e, 0, k, he, Zb hw <| Zh h1 <| Zb he rfl, h2⟩
 ·obtain ⟨i1, i2, i3⟩ := I.ix hk
  by_cases hf0 : f < 0
  ·exact .inr (.inl ⟨k, 0, hk, Zb hw <| Zh h1 <| Zi (fun h => h rfl) <| Zb hf0 rfl, h2, .inl hf0⟩)
  ·have hgo : ∀ {r}, (if (pl (L.getD k RI.z)).a1 ≤ f then some (.r0 0 22 : Zar) else some (.r0 (L.getD k RI.z).a0 0)) = some r → Zal K Q f w H V W N = some r := fun h => Zb hw <| Zh h1 <| Zi (fun h => h rfl) <| Zi hf0 <| by
    show (if 0 ≤ i64.wrap ((L.getD k RI.z).a0 - 1) then _ else _) = _
    rw [i1, i3]
    exact Zb (by omega) <| Zb (by omega) h
   by_cases hf : (L.getD k RI.z).a4 ≤ f
   ·exact .inr (.inl ⟨k, 0, hk, hgo (Zb hf rfl), h2, .inr hf⟩)
   ·exact .inr (.inr ⟨k, hk, hgo (Zi hf rfl), h2, by omega, by omega⟩)
theorem Inv.vx (I : Inv i w L Fr Md H V W) {k : Nat} (h : k < L.length) {f : Int} (f0 : 0 ≤ f) (f1 : f < (L.getD k RI.z).a4) : i64.wrap ((L.getD k RI.z).a0 + f) = (L.getD k RI.z).a0 + f ∧ ((L.getD k RI.z).a0 + f).toNat = sz (L.take k) + 1 + f.toNat ∧ 0 ≤ (L.getD k RI.z).a0 + f ∧ ((L.getD k RI.z).a0 + f).toNat < V.length ∧ f.toNat < (L.getD k RI.z).a8.length ∧ (L.getD k RI.z).a8.length ≤ 16 := by
 obtain ⟨p1, p2, p3⟩ := I.at_ h
 have := p1.ad; have := p1.f1; have := p1.f2; have := p1.fl; have h1 := I.sw; have h2 := I.w2
 have hV : V.length = sz L := by rw [I.vv]; exact Zgo I.ok
 exact ⟨w64 (by omega) (by omega), by omega, by omega, by omega, by omega, by omega⟩
theorem Inv.load (I : Inv i w L Fr Md H V W) (hi : i ≤ 60) (hQ : Q ≤ 9223372036854775807) (hN : 2000 ≤ N) (f : Int) : ∃ a b e, Zcu K Q f w H V W N = some (.r0 a b e) ∧ Zex w L Fr K Q f N = some (.r0 a b e) := by
 rcases I.fld (K := K) (Q := Q) hi hQ hN f with ⟨e, x, k, he, h1, h2⟩ | ⟨k, x, hk, h1, h2, h3⟩ | ⟨k, hk, h1, h2, f0, f1⟩
 ·exact ⟨0, 0, e, Zh h1 <| Zb he rfl, Zh h2 <| Zb he rfl⟩
 ·refine ⟨0, 0, 22, Zh h1 <| Zb (by decide) rfl, Zh h2 <| Zi (fun h => h rfl) <| ZL (fun _ => rfl) fun hf => Zb (by omega) <| Zb (by omega) <| Zb ?_ rfl⟩
  rw [Zbp]
  rcases h3 with h3 | h3
  ·exact absurd h3 hf
  ·exact h3
 ·obtain ⟨v1, v2, v3, v4, v5, v6⟩ := I.vx hk f0 f1
  refine ⟨((L.getD k RI.z).a8.getD f.toNat RF.z).a0, ((L.getD k RI.z).a8.getD f.toNat RF.z).a1, 0, Zh h1 <| Zi (fun h => h rfl) ?_, Zh h2 <| Zi (fun h => h rfl) <| Zi (by omega) <| Zb (by omega) <| Zb (by omega) ?_⟩
  ·show (if 0 ≤ i64.wrap ((L.getD k RI.z).a0 + f) then _ else _) = _
   rw [v1]
   refine Zb v3 <| Zb v4 ?_
   rw [v2, I.vv, Zwo I.ok hk v5]
  ·rw [Zbp]
   exact Zi (by omega) <| Zb v5 rfl
def bit (p : PA) (f : Int) : Prop := p.a5 / 2 ^ f.toNat % 2 = 1
instance (p : PA) (f : Int) : Decidable (bit p f) := by unfold bit; infer_instance
def Zv4 (p : PA) (f vK vN : Int) : Prop := (vK = 1 ∧ ¬ bit p f) ∨ (vK = 2 ∧ (vN = 0 ∨ isR vN) ∧ bit p f)
instance (p : PA) (f vK vN : Int) : Decidable (Zv4 p f vK vN) := by unfold Zv4; infer_instance
theorem Inv.store (I : Inv i w L Fr Md H V W) (hi : i ≤ 60) (hQ : Q ≤ 9223372036854775807) (hN : 2000 ≤ N) (f vK vN : Int) (hv : vN ≤ 9223372036854775807) : ∃ e V' L', ZaH K Q f vK vN w H V W N = some (.r0 V' e) ∧ Zc3 w L Fr K Q f vK vN N = some (.r0 L' e) ∧ Inv (i + 1) w L' Fr Md H V' W := by
 have hl := I.ln
 rcases I.fld (K := K) (Q := Q) hi hQ hN f with ⟨e, x, k, he, h1, h2⟩ | ⟨k, x, hk, h1, h2, h3⟩ | ⟨k, hk, h1, h2, f0, f1⟩
 ·exact ⟨e, V, L, Zh h1 <| Zb he rfl, Zh h2 <| Zb he rfl, I.up⟩
 ·refine ⟨22, V, L, Zh h1 <| Zb (by decide) rfl, Zh h2 <| Zi (fun h => h rfl) <| Zb (by omega) <| Zb (by omega) <| ZL (fun _ => rfl) fun hf => Zb ?_ rfl, I.up⟩
  rw [Zbp]
  rcases h3 with h3 | h3
  ·exact absurd h3 hf
  ·exact h3
 ·obtain ⟨v1, v2, v3, v4, v5, v6⟩ := I.vx hk f0 f1
  obtain ⟨i1, i2, i3⟩ := I.ix hk
  obtain ⟨p1, _, _⟩ := I.at_ hk
  have q1 := p1.f2; have q2 := p1.m0
  have hb0 : 0 ≤ (L.getD k RI.z).a5 / 2 ^ f.toNat := Int.ediv_nonneg q2 (Int.le_of_lt (Zn1 _))
  have hpl : Pl (1 + sz (L.take k)) (i + 2) ({ L.getD k RI.z with a8 := (L.getD k RI.z).a8.set f.toNat ⟨vK, vN⟩ } : PA) := ⟨p1.ad, p1.f1, p1.f2, by have := p1.fl; show (((L.getD k RI.z).a8.set f.toNat _).length : Int) = (L.getD k RI.z).a4; rw [List.length_set]; exact this, p1.k, p1.n, p1.g1, by have := p1.g2; show (L.getD k RI.z).a3 ≤ _; omega, p1.m0⟩
  have hset := Zwn (v := ⟨vK, vN⟩) (q := { L.getD k RI.z with a8 := (L.getD k RI.z).a8.set f.toNat ⟨vK, vN⟩ }) I.ok hk v5 rfl
  have hH : H.set (sz (L.take k)) (pl { L.getD k RI.z with a8 := (L.getD k RI.z).a8.set f.toNat ⟨vK, vN⟩ }) = H := by
   have e : pl { L.getD k RI.z with a8 := (L.getD k RI.z).a8.set f.toNat ⟨vK, vN⟩ } = H.getD (sz (L.take k)) RG.z := by rw [(I.at_ hk).2.2]; rfl
   rw [e, List.getD_eq_getElem?_getD, List.getElem?_eq_getElem i2, Option.getD_some]
   exact List.set_getElem_self i2
  have hgo : ∀ {r}, (if bit (L.getD k RI.z) f then (if vK = 2 then (if ¬ vN = 0 then (if 0 < vN then (if vN / 1048576 ≤ 9223372036854775807 then (if 1 ≤ vN / 1048576 then (if vN / 1048576 ≤ 1073741824 then (if 1 ≤ vN % 1048576 then some (.r0 (V.set ((L.getD k RI.z).a0 + f).toNat ⟨vK, vN⟩) 0 : ZI) else some (.r0 V 10)) else some (.r0 V 10)) else some (.r0 V 10)) else none) else some (.r0 V 10)) else some (.r0 (V.set ((L.getD k RI.z).a0 + f).toNat ⟨vK, vN⟩) 0)) else some (.r0 V 10))
    else (if vK = 2 then (if ¬ vN = 0 then (if 0 < vN then (if vN / 1048576 ≤ 9223372036854775807 then some (.r0 V 10) else none) else some (.r0 V 10)) else some (.r0 V 10)) else (if vK = 1 then some (.r0 (V.set ((L.getD k RI.z).a0 + f).toNat ⟨vK, vN⟩) 0) else some (.r0 V 10)))) = some r → ZaH K Q f vK vN w H V W N = some r := fun {r} h => by
   refine Zh h1 <| Zi (fun h => h rfl) ?_
   show (if 0 ≤ i64.wrap ((L.getD k RI.z).a0 - 1) then _ else _) = _
   rw [i1, i3]
   refine Zb (by omega) <| Zb (by omega) <| Zb f0 <| Zb (by omega) ?_
   by_cases hb : bit (L.getD k RI.z) f
   ·rw [if_pos hb] at h
    refine Zb hb ?_
    by_cases c1 : vK = 2
    ·rw [if_pos c1] at h
     refine Zb c1 ?_
     by_cases c2 : ¬ vN = 0
     ·rw [if_pos c2] at h
      refine Zb c2 ?_
      by_cases c3 : 0 < vN
      ·rw [if_pos c3] at h
       refine Zb c3 ?_
       by_cases c4 : vN / 1048576 ≤ 9223372036854775807
       ·rw [if_pos c4] at h
        refine Zb c4 ?_
        by_cases c5 : 1 ≤ vN / 1048576
        ·rw [if_pos c5] at h
         refine Zb c5 ?_
         by_cases c6 : vN / 1048576 ≤ 1073741824
         ·rw [if_pos c6] at h
          refine Zb c6 ?_
          by_cases c7 : 1 ≤ vN % 1048576
          ·rw [if_pos c7] at h
           refine Zb c7 ?_
           rw [v1]
           exact Zb v3 <| Zb v4 h
          ·rw [if_neg c7] at h; exact Zi c7 h
         ·rw [if_neg c6] at h; exact Zi c6 h
        ·rw [if_neg c5] at h; exact Zi c5 h
       ·rw [if_neg c4] at h; cases h
      ·rw [if_neg c3] at h; exact Zi c3 h
     ·rw [if_neg c2] at h
      refine Zi c2 ?_
      rw [v1]
      exact Zb v3 <| Zb v4 h
    ·rw [if_neg c1] at h; exact Zi c1 h
   ·rw [if_neg hb] at h
    refine Zi hb ?_
    by_cases c1 : vK = 2
    ·rw [if_pos c1] at h
     exact Zb c1 h
    ·rw [if_neg c1] at h
     refine Zi c1 ?_
     by_cases c2 : vK = 1
     ·rw [if_pos c2] at h
      refine Zb c2 ?_
      rw [v1]
      exact Zb v3 <| Zb v4 h
     ·rw [if_neg c2] at h; exact Zi c2 h
  have hw4 := Zv3 (w := w) (Fr := Fr) (N := N) (a4 := (L.getD k RI.z).a0) (a5 := (L.getD k RI.z).a1) (a6 := (L.getD k RI.z).a2) (a7 := (L.getD k RI.z).a3) (a8 := (L.getD k RI.z).a4) (a9 := (L.getD k RI.z).a5) (a10 := (L.getD k RI.z).a6) (a11 := (L.getD k RI.z).a7) (L12 := (L.getD k RI.z).a8.set f.toNat ⟨vK, vN⟩) hk (show L.length ≤ 1000 by omega)
  have hd : ∀ {r}, (if vK = 1 then (if bit (L.getD k RI.z) f then some (.r0 L 10 : Zam) else some (.r0 (L.set k { L.getD k RI.z with a8 := (L.getD k RI.z).a8.set f.toNat ⟨vK, vN⟩ }) 0)) else (if vK = 2 then (if vN = 0 then (if bit (L.getD k RI.z) f then some (.r0 (L.set k { L.getD k RI.z with a8 := (L.getD k RI.z).a8.set f.toNat ⟨vK, vN⟩ }) 0) else some (.r0 L 10)) else (if isR vN then (if bit (L.getD k RI.z) f then some (.r0 (L.set k { L.getD k RI.z with a8 := (L.getD k RI.z).a8.set f.toNat ⟨vK, vN⟩ }) 0) else some (.r0 L 10)) else some (.r0 L 10))) else some (.r0 L 10))) = some r → Zc3 w L Fr K Q f vK vN N = some r := fun {r} h => by
   refine Zh h2 <| Zi (fun h => h rfl) <| Zb (by omega) <| Zb (by omega) <| Zi (by omega) ?_
   rw [Zbp]
   refine Zi (by omega) ?_
   by_cases c1 : vK = 1
   ·rw [if_pos c1] at h
    refine Zb c1 <| Zb (by omega) <| Zb (by omega) <| Zb hb0 ?_
    by_cases hb : bit (L.getD k RI.z) f
    ·rw [if_pos hb] at h; exact Zb hb h
    ·rw [if_neg hb] at h
     exact Zi hb <| Zi (by omega) <| Zb (by omega) <| Zb (by omega) <| Zh hw4 h
   ·rw [if_neg c1] at h
    refine Zi c1 ?_
    by_cases c2 : vK = 2
    ·rw [if_pos c2] at h
     refine Zb c2 ?_
     by_cases c3 : vN = 0
     ·rw [if_pos c3] at h
      refine Zb c3 <| Zb (by omega) <| Zb (by omega) <| Zb hb0 ?_
      by_cases hb : bit (L.getD k RI.z) f
      ·rw [if_pos hb] at h
       exact Zb hb <| Zi (by omega) <| Zb (by omega) <| Zb (by omega) <| Zh hw4 h
      ·rw [if_neg hb] at h; exact Zi hb h
     ·rw [if_neg c3] at h
      refine Zi c3 ?_
      by_cases c4 : isR vN
      ·rw [if_pos c4] at h
       obtain ⟨r1, r2, r3⟩ := c4
       refine Zb r1 <| Zb (by omega) <| Zb r2 <| Zb r3 <| Zb (by omega) <| Zb (by omega) <| Zb hb0 ?_
       by_cases hb : bit (L.getD k RI.z) f
       ·rw [if_pos hb] at h
        exact Zb hb <| Zi (by omega) <| Zb (by omega) <| Zb (by omega) <| Zh hw4 h
       ·rw [if_neg hb] at h; exact Zi hb h
      ·rw [if_neg c4] at h
       unfold isR at c4
       exact ZL (fun r1 => Zb (by omega) <| ZL (fun r2 => Zi (by omega) h) fun _ => h) fun _ => h
    ·rw [if_neg c2] at h; exact Zi c2 h
  by_cases hf : Zv4 (L.getD k RI.z) f vK vN
  ·refine ⟨0, V.set ((L.getD k RI.z).a0 + f).toNat ⟨vK, vN⟩, L.set k { L.getD k RI.z with a8 := (L.getD k RI.z).a8.set f.toNat ⟨vK, vN⟩ }, hgo ?_, hd ?_, ?_⟩
   ·rcases hf with ⟨rfl, hb⟩ | ⟨rfl, h, hb⟩
    ·exact Zi hb <| Zi (by decide) <| Zb rfl rfl
    ·refine Zb hb <| Zb rfl ?_
     rcases h with rfl | ⟨r1, r2, r3⟩
     ·exact Zi (fun h => h rfl) rfl
     ·exact Zb (by omega) <| Zb (by omega) <| Zb (by omega) <| Zb (by omega) <| Zb r2 <| Zb r3 rfl
   ·rcases hf with ⟨rfl, hb⟩ | ⟨rfl, h, hb⟩
    ·exact Zb rfl <| Zi hb rfl
    ·refine Zi (by decide) <| Zb rfl ?_
     rcases h with rfl | h
     ·exact Zb rfl <| Zb hb rfl
     ·exact Zi (by have := h.1; omega) <| Zb h <| Zb hb rfl
   ·have := I.set hk hpl rfl rfl (V' := V.set ((L.getD k RI.z).a0 + f).toNat ⟨vK, vN⟩) (by rw [v2, I.vv]; exact hset)
    rwa [hH] at this
  ·refine ⟨10, V, L, hgo ?_, hd ?_, I.up⟩
   ·refine ZL (fun hb => ZL (fun c1 => ?_) fun _ => rfl) fun hb => ZL (fun c1 => ZL (fun c2 => ZL (fun c3 => Zb (by omega) rfl) fun _ => rfl) fun _ => rfl) fun c1 => Zi (fun c2 => hf (.inl ⟨c2, hb⟩)) rfl
    have hn : ¬ (vN = 0 ∨ isR vN) := fun h => hf (.inr ⟨c1, h, hb⟩)
    refine Zb (fun h => hn (.inl h)) <| ZL (fun c3 => Zb (by omega) <| ZL (fun c4 => ZL (fun c5 => Zi (fun c6 => hn (.inr ⟨by omega, c5, c6⟩)) rfl) fun _ => rfl) fun _ => rfl) fun _ => rfl
   ·refine ZL (fun c1 => ZL (fun _ => rfl) fun hb => absurd (.inl ⟨c1, hb⟩) hf) fun c1 => ZL (fun c2 => ZL (fun c3 => Zi (fun hb => hf (.inr ⟨c2, .inl c3, hb⟩)) rfl) fun c3 => ZL (fun c4 => Zi (fun hb => hf (.inr ⟨c2, .inr c4, hb⟩)) rfl) fun _ => rfl) fun _ => rfl
theorem Inv.share (I : Inv i w L Fr Md H V W) (hi : i ≤ 60) (hQ : Q ≤ 9223372036854775807) (hN : 2000 ≤ N) :
  (∃ e k, ¬ e = 0 ∧ ZaV K Q w H V W N = some (.r0 H e) ∧ Zax w L Fr K Q N = some (.r0 k e)) ∨
  (∃ k : Nat, k < L.length ∧ ¬ (L.getD k RI.z).a6 = 1 ∧ ZaV K Q w H V W N = some (.r0 H 0) ∧ Zax w L Fr K Q N = some (.r0 (k : Int) 0)) ∨
  (∃ (k : Nat) (H' : List RG) (L' : List PA), k < L.length ∧ (L.getD k RI.z).a6 = 1 ∧ ZaV K Q w H V W N = some (.r0 H' 0) ∧ Zax w L Fr K Q N = some (.r0 (k : Int) 0) ∧ Zdk w L Fr K Q 2 N = some (.r0 L' 0) ∧ Inv (i + 1) w L' Fr Md H' V W) := by
 have hw : 0 < w := by have := I.w1; omega
 have hl := I.ln
 rcases I.get (K := K) (Q := Q) hi hQ hN with ⟨e, x, k, he, h1, h2⟩ | ⟨k, hk, h1, h2, h3⟩
 ·exact .inl ⟨e, k, he, Zb hw <| Zh h1 <| Zb he rfl, h2⟩
 ·obtain ⟨i1, i2, i3⟩ := I.ix hk
  obtain ⟨p1, _, _⟩ := I.at_ hk
  have hgo : ∀ {r}, (if (L.getD k RI.z).a6 = 1 then some (.r0 (H.set (sz (L.take k)) (pl { L.getD k RI.z with a6 := 2 })) 0 : ZaZ) else some (.r0 H 0)) = some r → ZaV K Q w H V W N = some r := fun {r} h => by
   refine Zb hw <| Zh h1 <| Zi (fun h => h rfl) ?_
   show (if 0 ≤ i64.wrap ((L.getD k RI.z).a0 - 1) then _ else _) = _
   rw [i1, i3]
   exact Zb (by omega) <| Zb (by omega) h
  by_cases hs : (L.getD k RI.z).a6 = 1
  ·have hpl : Pl (1 + sz (L.take k)) (i + 2) ({ L.getD k RI.z with a6 := 2 } : PA) := ⟨p1.ad, p1.f1, p1.f2, p1.fl, p1.k, p1.n, p1.g1, by have := p1.g2; show (L.getD k RI.z).a3 ≤ _; omega, p1.m0⟩
   refine .inr (.inr ⟨k, H.set (sz (L.take k)) (pl { L.getD k RI.z with a6 := 2 }), L.set k { L.getD k RI.z with a6 := 2 }, hk, hs, hgo (Zb hs rfl), h2, ?_, I.set hk hpl rfl rfl (by rw [I.vv]; exact (Zn3 (q := { L.getD k RI.z with a6 := 2 }) hk rfl).symm)⟩)
   have hw3 := Zn4 (w := w) (Fr := Fr) (N := N) (a4 := (L.getD k RI.z).a0) (a5 := (L.getD k RI.z).a1) (a6 := (L.getD k RI.z).a2) (a7 := (L.getD k RI.z).a3) (a8 := (L.getD k RI.z).a4) (a9 := (L.getD k RI.z).a5) (a10 := 2) (a11 := (L.getD k RI.z).a7) (L12 := (L.getD k RI.z).a8) hk (show L.length ≤ 1000 by omega)
   exact Zh h2 <| Zi (fun h => h rfl) <| Zb (by decide) <| Zi (fun h => h rfl) <| Zb (by omega) <| Zb (by omega) <| Zh hw3 rfl
  ·exact .inr (.inl ⟨k, hk, hs, hgo (Zi hs rfl), h2⟩)
end
end Hl
end Ev
end Go.Proofs.Ytomkpfibofpkbaa
namespace Go.Proofs.Ytomkpfibofpkbaa
open Go.RowKit
namespace Ev
set_option linter.unusedVariables false
set_option linter.unusedSimpArgs false
set_option maxRecDepth 100000
namespace Hl
section
variable {i : Nat} {w : Int} {L : List PA} {Fr : List Int} {Md : List RF} {H : List RG} {V : List RF} {W : Nat → List Int} {N : Nat} {K Q : Int}
theorem ZrK (L : List PA) (Fr : List Int) (n : Nat) : (wf L Fr n).length ≤ Fr.length := by unfold wf; rw [List.length_map]; exact List.length_filter_le _ _
theorem Zo5 (L : List PA) (A B : List Int) (n : Nat) : wf L (A ++ B) n = wf L A n ++ wf L B n := by simp [wf]
theorem Zpg (L : List PA) (k : Int) (B : List Int) (n : Nat) : wf L (k :: B) n = (if fl4 L n k then [(L.getD k.toNat RI.z).a0] else []) ++ wf L B n := by
 unfold wf
 rw [List.filter_cons]
 cases h : fl4 L n k <;> simp
theorem Zu6 (L : List PA) (n : Nat) : wf L [] n = [] := rfl
theorem Zph {α : Type} {n : Nat} {x : Int} {f : Nat → Option α} {r : Option α} (h0 : 0 ≤ x) (h1 : x < n) (h : f x.toNat = r) : ZoO n x f = r := by unfold ZoO; rw [if_pos ⟨h0, h1⟩]; exact h
theorem Inv.release (I : Inv i w L Fr Md H V W) (hi : i ≤ 59) (hQ : Q ≤ 9223372036854775807) (hN : 2000 ≤ N) :
  (∃ e, Zbf K Q w H V W N = some (.r0 e H W) ∧ Zba w L Fr K Q N = some (.r0 L e)) ∨
  (∃ H' L' W' Fr', Zbf K Q w H V W N = some (.r0 0 H' W') ∧ Zba w L Fr K Q N = some (.r1 L' Fr') ∧ Inv (i + 1) w L' Fr' Md H' V W') := by
 have hw : 0 < w := by have := I.w1; omega
 have hl := I.ln
 rcases I.get (K := K) (Q := Q) (by omega) hQ hN with ⟨e, x, k, he, h1, h2⟩ | ⟨k, hk, h1, h2, h3⟩
 ·exact .inl ⟨e, Zb hw <| Zh h1 <| Zb he rfl, Zh h2 <| Zb he rfl⟩
 obtain ⟨i1, i2, i3⟩ := I.ix hk
 obtain ⟨p1, p2, _⟩ := I.at_ hk
 have a1 := p1.ad; have a2 := p1.f1; have a3 := p1.f2; have a4 := p1.g2
 by_cases hk0 : k = 0
 ·subst hk0
  have e1 : (L.getD 0 RI.z).a0 = 1 := by rw [a1]; rfl
  exact .inl ⟨1, Zb hw <| Zh h1 <| Zi (fun h => h rfl) <| Zb e1 rfl, Zh h2 <| Zi (fun h => h rfl) <| Zb rfl rfl⟩
 have hz : 0 < sz (L.take k) := by
  have e := Zfd hk
  have hk' := I.ok
  rw [e] at hk'
  exact ZrJ hk'.split.1 (by rw [List.length_take]; omega)
 have hpl : Pl (1 + sz (L.take k)) (i + 2) ({ L.getD k RI.z with a6 := 0 } : PA) := ⟨p1.ad, p1.f1, p1.f2, p1.fl, p1.k, p1.n, p1.g1, by show (L.getD k RI.z).a3 ≤ _; omega, p1.m0⟩
 have J := I.set hk hpl rfl rfl (V' := V) (by rw [I.vv]; exact (Zn3 (q := { L.getD k RI.z with a6 := 0 }) hk rfl).symm)
 have hg : (L.getD k RI.z).a3 < 1073741824 := by omega
 have hκ : (L.getD k RI.z).a4.toNat ≤ 16 := by omega
 have hwl : (W (L.getD k RI.z).a4.toNat).length ≤ 100000 := by rw [I.ww _ hκ]; have := ZrK L Fr (L.getD k RI.z).a4.toNat; have := I.fn; omega
 refine .inr ⟨H.set (sz (L.take k)) (pl { L.getD k RI.z with a6 := 0 }), L.set k { L.getD k RI.z with a6 := 0 }, Zkk W (L.getD k RI.z).a4.toNat (W (L.getD k RI.z).a4.toNat ++ [(L.getD k RI.z).a0]), Fr ++ [(k : Int)], ?_, ?_, ?_⟩
 ·refine Zb hw <| Zh h1 <| Zi (fun h => h rfl) <| Zi (by omega) ?_
  show (if 0 ≤ IntKind.i64.wrap ((L.getD k RI.z).a0 - 1) then _ else _) = _
  rw [i1, i3]
  exact Zb (by omega) <| Zb (by omega) <| Zb hg <| Zph (by show 0 ≤ (L.getD k RI.z).a4; omega) (by show (L.getD k RI.z).a4 < 17; omega) <| Zb hwl rfl
 ·have hw3 := Zn4 (w := w) (Fr := Fr) (N := N) (a4 := (L.getD k RI.z).a0) (a5 := (L.getD k RI.z).a1) (a6 := (L.getD k RI.z).a2) (a7 := (L.getD k RI.z).a3) (a8 := (L.getD k RI.z).a4) (a9 := (L.getD k RI.z).a5) (a10 := 0) (a11 := (L.getD k RI.z).a7) (L12 := (L.getD k RI.z).a8) hk (show L.length ≤ 1000 by omega)
  refine Zh h2 <| Zi (fun h => h rfl) <| Zi (by omega) <| Zb (by omega) <| Zb (by omega) <| Zh hw3 <| Zb hg <| ZL (fun hF => ?_) fun hF => Zb (by have := I.fn; omega) rfl
  rw [List.eq_nil_of_length_eq_zero hF]; rfl
 ·refine { J with fn := by rw [List.length_append]; have := I.fn; simp; omega, fk := fun j hj => ?_, ww := fun n hn => ?_ }
  ·rcases List.mem_append.1 hj with hj | hj
   ·exact J.fk j hj
   ·obtain rfl := List.mem_singleton.1 hj
    rw [List.length_set]; omega
  ·rw [Zo5, Zpg, Zu6, List.append_nil, ← J.ww n hn]
   have e : fl4 (L.set k { L.getD k RI.z with a6 := 0 }) n (k : Int) = decide ((L.getD k RI.z).a4 = (n : Int)) := by
    unfold fl4; rw [Zbp, ZiU hk, if_pos rfl]
   have e0 : ((L.set k { L.getD k RI.z with a6 := 0 }).getD ((k : Int)).toNat RI.z).a0 = (L.getD k RI.z).a0 := by rw [Zbp, ZiU hk, if_pos rfl]
   rw [e, e0]
   by_cases hn2 : n = (L.getD k RI.z).a4.toNat
   ·subst hn2
    rw [Zp8, decide_eq_true (by omega), if_pos rfl]
   ·rw [Zoa hn2, decide_eq_false (by omega)]
    simp
theorem Inv.fork (I : Inv i w L Fr Md H V W) (hi : i ≤ 60) : Zbz w H V W N = some .r0 := by
 have hw : 0 < w := by have := I.w1; omega
 have hH : H.length = sz L := by rw [I.hh]; rfl
 have hV : V.length = sz L := by rw [I.vv]; exact Zgo I.ok
 have h1 := I.sw; have h2 := I.w2; have h3 := I.fn; have hz := ZrJ I.ok I.ne
 have hW : ∀ n, n ≤ 16 → Zv (W n) N = some .r0 := fun n hn => Zb (by rw [I.ww n hn]; have := ZrK L Fr n; omega) rfl
 exact Zb hw <| Zh (show Zas H N = some .r0 from Zb (by omega) <| Zb (by omega) rfl) <| Zh (show Za2 V N = some .r0 from Zb (by omega) <| Zb (by omega) rfl) <|
  Zh (hW 0 (by omega)) <| Zh (hW 1 (by omega)) <| Zh (hW 2 (by omega)) <| Zh (hW 3 (by omega)) <| Zh (hW 4 (by omega)) <| Zh (hW 5 (by omega)) <| Zh (hW 6 (by omega)) <| Zh (hW 7 (by omega)) <| Zh (hW 8 (by omega)) <| Zh (hW 9 (by omega)) <| Zh (hW 10 (by omega)) <| Zh (hW 11 (by omega)) <| Zh (hW 12 (by omega)) <| Zh (hW 13 (by omega)) <| Zh (hW 14 (by omega)) <| Zh (hW 15 (by omega)) <| Zh (hW 16 (by omega)) rfl
/-! ### Alloc -/
theorem ZsS {p : Int → Bool} : ∀ Fr : List Int, Fr.filter p = [] ∨ ∃ A k B, Fr = A ++ k :: B ∧ p k = true ∧ B.filter p = []
 | [] => .inl rfl
 | x :: Fr => by
  rcases ZsS (p := p) Fr with h | ⟨A, k, B, h1, h2, h3⟩
  ·cases hx : p x with
   | true => exact .inr ⟨[], x, Fr, rfl, hx, h⟩
   | false => exact .inl (by rw [List.filter_cons, hx]; exact h)
  ·exact .inr ⟨x :: A, k, B, by rw [h1]; rfl, h2, h3⟩
theorem Zkv {g a : Int} (h1 : 1 ≤ g) (h2 : g ≤ 1073741824) (h3 : 1 ≤ a) (h4 : a < 1048576) : Zag g a N = some (.r0 2 (g * 1048576 + a)) := Zi (by omega) <| Zi (by omega) <| Zi (by omega) <| Zi (by omega) rfl
theorem Zqq {g a : Int} (h1 : 1 ≤ g) (h2 : g ≤ 1073741824) (h3 : 1 ≤ a) (h4 : a < 1048576) : ZaS g a N = some (.r0 2 (g * 1048576 + a) 0) := Zb h1 <| Zb h2 <| Zb h3 <| Zb (by omega) rfl
theorem skip {n m o lo : Int} (hF : ∀ k ∈ Fr, 0 ≤ k ∧ k < L.length) (hl : -1 ≤ lo) (hm : Fr.length ≤ 100000) (hs : ∀ j : Nat, lo < j → j < Fr.length → ¬ (L.getD (Fr.getD j 0).toNat RI.z).a4 = n) : ∀ (t : Nat) (v : Int) (fu : Nat), v = lo + t → v < Fr.length → Zbn (ZaU w L Fr n m o N) (t + fu) (.h1m0 v) = Zbn (ZaU w L Fr n m o N) fu (.h1m0 lo)
 | 0, v, fu, hv, _ => by rw [show v = lo by omega, Nat.zero_add]
 | t + 1, v, fu, hv, hlt => by
  have hj : v.toNat < Fr.length := by omega
  have hk : 0 ≤ Fr.getD v.toNat 0 ∧ Fr.getD v.toNat 0 < L.length := by
   rw [List.getD_eq_getElem?_getD, List.getElem?_eq_getElem hj, Option.getD_some]
   exact hF _ (List.getElem_mem _)
  have hst : ZaU w L Fr n m o N (.h1m0 v) = some (.inl (.h1m0 (v - 1))) := by
   show ZaM w L Fr n m o N v = _
   refine Zb (by omega) <| Zb hj <| Zb hk.1 <| Zb (by omega) <| Zb (hs v.toNat (by omega) hj) ?_
   rw [w64 (by omega) (by omega)]
  rw [show t + 1 + fu = (t + fu) + 1 by omega, ZbY hst]
  exact skip hF hl hm hs t (v - 1) fu (by omega) (by omega)
theorem pow16 {n : Int} (h0 : 0 ≤ n) (h : n ≤ 16) : IntKind.i64.wrap (1 * 2 ^ n.toNat) ≤ 65536 := by
 have : ∀ k, k ≤ 16 → (2 : Int) ^ k ≤ 65536 := by decide
 have h1 := this n.toNat (by omega)
 have h2 := Zn1 n.toNat
 rw [w64 (by omega) (by omega)]; omega
end
end Hl
end Ev
end Go.Proofs.Ytomkpfibofpkbaa
namespace Go.Proofs.Ytomkpfibofpkbaa
open Go.IntKind (i64)
open Go.RowKit
namespace Ev
set_option linter.unusedVariables false
set_option linter.unusedSimpArgs false
set_option maxRecDepth 100000
namespace Hl
section
variable {i : Nat} {w : Int} {L : List PA} {Fr : List Int} {Md : List RF} {H : List RG} {V : List RF} {W : Nat → List Int} {N : Nat} {K Q : Int} {n m o : Int}
def good (n m o : Int) : Prop := 1 ≤ n ∧ n ≤ 16 ∧ 0 ≤ m ∧ m < i64.wrap (1 * 2 ^ n.toNat) ∧ 0 ≤ o ∧ o ≤ 63
instance (n m o : Int) : Decidable (good n m o) := by unfold good; infer_instance
theorem Zu7 (h : ¬ good n m o) (hw : 0 < w) : Zaw n m o w H V W N = some (.r0 0 0 1 H V W) ∧ Zaq w L Fr n m o N = some (.r0 1) := by
 unfold good at h
 constructor
 ·exact Zb hw <| ZL (fun _ => rfl) fun h1 => ZL (fun _ => rfl) fun h2 => ZL (fun _ => rfl) fun h3 => ZL (fun _ => rfl) fun h4 => ZL (fun _ => rfl) fun h5 => Zb (by omega) rfl
 ·exact Zhy (ZL (fun _ => rfl) fun h1 => ZL (fun _ => rfl) fun h2 => ZL (fun _ => rfl) fun h3 => ZL (fun _ => rfl) fun h4 => ZL (fun _ => rfl) fun h5 => Zb (by omega) rfl)
theorem ZmS (h : good n m o) (hF : Fr.length ≤ 1000) {r : Option ZG} (hr : Zbn (ZaU w L Fr n m o N) N (.h1m0 ((Fr.length : Int) - 1)) = r) : Zaq w L Fr n m o N = r := by
 obtain ⟨h1, h2, h3, h4, h5, h6⟩ := h
 exact (Zfc (Zi (by omega) <| Zi (by omega) <| Zi (by omega) <| Zi (by omega) <| Zi (by omega) <| Zi (by omega) <| Zb (by omega) rfl)).trans hr
def mkP (a g n m o : Int) : PA := ⟨a, 2, g * 1048576 + a, g, n, m, 1, o, fr n.toNat m⟩
theorem ZtF {A B : List Int} {k : Nat} (hk : k < L.length) (hn : (L.getD k RI.z).a4 = n) (n1 : 1 ≤ n) (n2 : n ≤ 16) (m0 : 0 ≤ m) (m1 : m ≤ 65536) (g1 : 1 ≤ (L.getD k RI.z).a3) (g2 : (L.getD k RI.z).a3 ≤ 1000) (a1 : 1 ≤ (L.getD k RI.z).a0) (a2 : (L.getD k RI.z).a0 < 1048576) (hL : L.length ≤ 1000) (hF : Fr = A ++ (k : Int) :: B) (hl : Fr.length ≤ 1000) (hN : 2000 ≤ N) :
  ∃ R, ZaU w L Fr n m o N (.h1m0 (A.length : Int)) = some (.inr R) ∧ ((R = .r1 (L.set k (mkP (L.getD k RI.z).a0 ((L.getD k RI.z).a3 + 1) n m o)) 2 (((L.getD k RI.z).a3 + 1) * 1048576 + (L.getD k RI.z).a0) ∧ A ++ B = []) ∨ R = .r2 (L.set k (mkP (L.getD k RI.z).a0 ((L.getD k RI.z).a3 + 1) n m o)) (A ++ B) 2 (((L.getD k RI.z).a3 + 1) * 1048576 + (L.getD k RI.z).a0)) := by
 have hlen : Fr.length = A.length + (1 + B.length) := by rw [hF]; simp; omega
 have hget : Fr.getD A.length 0 = (k : Int) := by rw [hF]; simp
 have htake : Fr.take A.length = A := by rw [hF]; simp
 have hdrop : (Fr.drop ((A.length : Int) + 1).toNat).take (Fr.length - ((A.length : Int) + 1).toNat) = B := by
  rw [show ((A.length : Int) + 1).toNat = A.length + 1 by omega, hlen, show A.length + (1 + B.length) - (A.length + 1) = B.length by omega, hF, ← List.drop_drop]
  simp
 have hw : i64.wrap ((L.getD k RI.z).a3 + 1) = (L.getD k RI.z).a3 + 1 := w64 (by omega) (by omega)
 have hr := Zkv (N := N) (g := (L.getD k RI.z).a3 + 1) (a := (L.getD k RI.z).a0) (by omega) (by omega) a1 a2
 have hf := Zn2 (a0 := n) (a1 := m) n1 n2 m0 m1 (show 20 ≤ N by omega)
 have hw2 : ∀ (Z : List Int), ZbE w L Z (k : Int) (L.getD k RI.z).a0 2 (((L.getD k RI.z).a3 + 1) * 1048576 + (L.getD k RI.z).a0) ((L.getD k RI.z).a3 + 1) n m 1 o (fr n.toNat m) N = some .r0 := fun Z => Zi (by omega) <| Zb (by omega) <| Zb (by omega) <| Zb (by omega) rfl
 have hw1 : ZdG w L (k : Int) (L.getD k RI.z).a0 2 (((L.getD k RI.z).a3 + 1) * 1048576 + (L.getD k RI.z).a0) ((L.getD k RI.z).a3 + 1) n m 1 o (fr n.toNat m) N = some .r0 := Zi (by omega) <| Zb (by omega) <| Zb (by omega) <| Zb (by omega) rfl
 have hgo : ∀ {r}, ZaM w L Fr n m o N (A.length : Int) = r → ZaU w L Fr n m o N (.h1m0 (A.length : Int)) = r := fun h => h
 by_cases hA : A = []
 ·by_cases hB : B = []
  ·refine ⟨_, hgo ?_, .inl ⟨rfl, by rw [hA, hB]; rfl⟩⟩
   unfold ZaM
   rw [Zbp, hget, Zbp, hw, htake, hdrop]
   exact Zb (by omega) <| Zb (by omega) <| Zb (by omega) <| Zb (by omega) <| Zi (fun h => h hn) <| Zb (by rw [hA]; rfl) <| Zb (by rw [hB]; rfl) <| Zh hr <| Zh hf <| Zh hw1 rfl
  ·refine ⟨_, hgo ?_, .inr rfl⟩
   have hB' : ¬ B.length = 0 := fun h => hB (List.eq_nil_of_length_eq_zero h)
   unfold ZaM
   rw [Zbp, hget, Zbp, hw, htake, hdrop]
   refine Zb (by omega) <| Zb (by omega) <| Zb (by omega) <| Zb (by omega) <| Zi (fun h => h hn) <| Zb (by rw [hA]; rfl) <| Zi hB' <| Zb (by omega) <| Zh hr <| Zh hf <| Zh (hw2 B) ?_
   rw [hA]; rfl
 ·have hA' : ¬ A.length = 0 := fun h => hA (List.eq_nil_of_length_eq_zero h)
  by_cases hB : B = []
  ·refine ⟨_, hgo ?_, .inr rfl⟩
   unfold ZaM
   rw [Zbp, hget, Zbp, hw, htake, hdrop]
   refine Zb (by omega) <| Zb (by omega) <| Zb (by omega) <| Zb (by omega) <| Zi (fun h => h hn) <| Zi hA' <| Zb (by omega) <| Zb (by rw [hB]; rfl) <| Zh hr <| Zh hf <| Zh (hw2 A) ?_
   rw [hB, List.append_nil]; rfl
  ·have hB' : ¬ B.length = 0 := fun h => hB (List.eq_nil_of_length_eq_zero h)
   refine ⟨_, hgo ?_, .inr rfl⟩
   unfold ZaM
   rw [Zbp, hget, Zbp, hw, htake, hdrop]
   exact Zb (by omega) <| Zb (by omega) <| Zb (by omega) <| Zb (by omega) <| Zi (fun h => h hn) <| Zi hA' <| Zb (by omega) <| Zi hB' <| Zb (by omega) <| Zh hr <| Zh hf <| Zh (hw2 (A ++ B)) rfl
theorem Inv.alloc (I : Inv i w L Fr Md H V W) (hi : i ≤ 59) (hN : 2000 ≤ N) (n m o : Int) :
  (∃ e, ¬ e = 0 ∧ Zaw n m o w H V W N = some (.r0 0 0 e H V W) ∧ Zaq w L Fr n m o N = some (.r0 e)) ∨
  (∃ Q H' V' W' L' Fr' R, Zaw n m o w H V W N = some (.r0 2 Q 0 H' V' W') ∧ Zaq w L Fr n m o N = some R ∧ ((R = .r1 L' 2 Q ∧ Fr' = []) ∨ R = .r2 L' Fr' 2 Q ∨ (R = .r3 L' 2 Q ∧ Fr' = Fr)) ∧ Inv (i + 1) w L' Fr' (Md ++ [⟨2, Q⟩]) H' V' W') := by
 have wpos : 0 < w := by have := I.w1; omega
 by_cases hg : ¬ good n m o
 ·obtain ⟨h1, h2⟩ := Zu7 (w := w) (H := H) (V := V) (W := W) (N := N) (L := L) (Fr := Fr) hg wpos
  exact .inl ⟨1, by decide, h1, h2⟩
 have hg := Decidable.not_not.1 hg
 obtain ⟨g1, g2, g3, g4, g5, g6⟩ := id hg
 have hm := pow16 (n := n) (by omega) g2
 have hl := I.ln; have hfn := I.fn; have hs1 := I.sw; have hs2 := I.w2
 have hH : H.length = sz L := by rw [I.hh]; rfl
 have hV : V.length = sz L := by rw [I.vv]; exact Zgo I.ok
 have hn : (n.toNat : Int) = n := by omega
 have hWn := I.ww n.toNat (by omega)
 have hz := ZrJ I.ok I.ne
 rcases ZsS (p := fl4 L n.toNat) Fr with he | ⟨A, k', B, hF, hp, hB⟩
 ·-- none waits: at the end
  have hW0 : W n.toNat = [] := by rw [hWn]; unfold wf; rw [he]; rfl
  have hno : ∀ j : Nat, (-1 : Int) < j → j < Fr.length → ¬ (L.getD (Fr.getD j 0).toNat RI.z).a4 = n := fun j _ hj h => by
   have hm : Fr.getD j 0 ∈ Fr.filter (fl4 L n.toNat) := by
    rw [List.mem_filter]
    refine ⟨?_, ?_⟩
    ·rw [List.getD_eq_getElem?_getD, List.getElem?_eq_getElem hj, Option.getD_some]; exact List.getElem_mem _
    ·unfold fl4; rw [hn]; exact decide_eq_true h
   rw [he] at hm; cases hm
  have hsk : ∀ {r}, ZaM w L Fr n m o N (-1) = some (.inr r) → Zaq w L Fr n m o N = some r := fun {r} h => by
   refine ZmS hg (by omega) ?_
   obtain ⟨fu, hfu⟩ : ∃ fu, N = Fr.length + (fu + 1) := ⟨N - Fr.length - 1, by omega⟩
   have := skip (w := w) (N := N) (m := m) (o := o) (n := n) (lo := -1) I.fk (by omega) (by omega) hno Fr.length ((Fr.length : Int) - 1) (fu + 1) (by omega) (by omega)
   rw [← hfu] at this
   rw [this]
   exact Zb7 h
  have hu : Zcd w L Fr N = some (.r0 (sz L : Int)) := ZsQ I.ok (by omega) (by omega) hN
  have hpu : Zav w H V W N = some (.r0 (sz L : Int)) := (Zb wpos rfl : Zav w H V W N = some (.r0 (H.length : Int))).trans (by rw [hH])
  have hprog : ∀ {r}, (if w < i64.wrap (i64.wrap ((sz L : Int) + n) + 1) then some (.r0 0 0 20 H V W : heap_Heap_AllocR) else ((ZaY 1 n m 1 o w H V W N).bind fun r => match r with
    | .r0 y11_0 => ((ZaS 1 (((H.length + 1 : Nat) : Int)) N).bind fun r => match r with
     | .r0 y12_0 y12_1 y12_2 => some (.r0 y12_0 y12_1 y12_2 ((H ++ List.replicate (i64.wrap (n + 1)).toNat (⟨0, 0, 0, 0, 0⟩ : RG)).set (i64.wrap (((H.length + 1 : Nat) : Int) - 1)).toNat (⟨1, n, m, 1, o⟩ : RG)) y11_0 W : heap_Heap_AllocR)))) = r → Zaw n m o w H V W N = r := fun {r} h =>
   Zb wpos <| Zi (by omega) <| Zi (by omega) <| Zi (by omega) <| Zi (by omega) <| Zi (by omega) <| Zi (by omega) <| Zph (by omega) (by omega) <| Zi (by rw [hW0]; decide) <| Zh hpu h
  have hw1 : i64.wrap (i64.wrap ((sz L : Int) + n) + 1) = sz L + n + 1 := by rw [w64 (x := (sz L : Int) + n) (by omega) (by omega), w64 (by omega) (by omega)]
  have hw2 : i64.wrap (w - (sz L : Int)) = w - sz L := w64 (by omega) (by omega)
  have hw3 : i64.wrap (n + 1) = n + 1 := w64 (by omega) (by omega)
  have hw4 : i64.wrap ((sz L : Int) + 1) = sz L + 1 := w64 (by omega) (by omega)
  rw [hw1, hw3] at hprog
  by_cases hfull : w < sz L + n + 1
  ·refine .inl ⟨20, by decide, hprog (Zb hfull rfl), hsk ?_⟩
   exact Zi (by decide) <| Zh hu <| Zb (by rw [hw2, hw3]; omega) rfl
  ·refine .inr ⟨1048576 + (sz L + 1), hd (L ++ [mkP (sz L + 1) 1 n m o]), vl (L ++ [mkP (sz L + 1) 1 n m o]), W, L ++ [mkP (sz L + 1) 1 n m o], Fr, .r3 (L ++ [mkP (sz L + 1) 1 n m o]) 2 (1048576 + (sz L + 1)), hprog (Zi hfull ?_), hsk ?_, .inr (.inr ⟨rfl, rfl⟩), ?_⟩
   ·have hgr : ZaY 1 n m 1 o w H V W N = some (.r0 (vl (L ++ [mkP (sz L + 1) 1 n m o]))) := by
     unfold ZaY
     rw [hw3]
     refine Zb (by omega) <| Zb (by omega) <| Zb (by omega) <| Zb (by omega) <| Zb (by omega) ?_
     have hrep : (V ++ List.replicate (n + 1).toNat (⟨0, 0⟩ : RF)) = (V ++ [⟨0, 0⟩]) ++ (List.replicate n.toNat ⟨0, 0⟩ ++ []) := by
      rw [show (n + 1).toNat = n.toNat + 1 by omega, List.replicate_succ]; simp
     have hres : vl (L ++ [mkP (sz L + 1) 1 n m o]) = (V ++ [⟨0, 0⟩]) ++ (fr n.toNat m ++ []) := by
      rw [Zgn, ZeG, I.vv]; simp [vl, mkP]; rfl
     rw [hrep, hres]
     exact Zh (ZpC (by omega) (by omega) (by rw [List.length_append]; simp; omega) (by simp; omega) (by omega) (by simp; omega) (by omega)) rfl
    refine Zh hgr <| Zh (Zqq (by decide) (by decide) (by omega) (by omega)) ?_
    have e1 : (H ++ List.replicate (n + 1).toNat (⟨0, 0, 0, 0, 0⟩ : RG)).set (i64.wrap (((H.length + 1 : Nat) : Int) - 1)).toNat (⟨1, n, m, 1, o⟩ : RG) = hd (L ++ [mkP (sz L + 1) 1 n m o]) := by
     rw [w64 (by omega) (by omega), show (((H.length + 1 : Nat) : Int) - 1).toNat = H.length by omega, List.set_append_right _ _ (Nat.le_refl _), Nat.sub_self, show (n + 1).toNat = n.toNat + 1 by omega, List.replicate_succ, List.set_cons_zero, Zmc, Zg1, I.hh]
     simp [hd, mkP]; exact ⟨rfl, .inr rfl⟩
    show some (heap_Heap_AllocR.r0 2 (1 * 1048576 + ((H.length + 1 : Nat) : Int)) 0 ((H ++ List.replicate (n + 1).toNat (⟨0, 0, 0, 0, 0⟩ : RG)).set (i64.wrap (((H.length + 1 : Nat) : Int) - 1)).toNat (⟨1, n, m, 1, o⟩ : RG)) _ W) = _
    rw [e1, show (1 * 1048576 + ((H.length + 1 : Nat) : Int)) = 1048576 + (sz L + 1) by omega]
   ·refine Zi (by decide) <| Zh hu <| Zi (by rw [hw2, hw3]; omega) ?_
    rw [hw4]
    refine Zh (Zkv (by decide) (by decide) (by omega) (by omega)) <| Zh (Zn2 g1 g2 g3 (by omega) (by omega)) <| Zi (by have := I.ne; omega) <| Zb (by omega) ?_
    rw [show (1 : Int) * 1048576 + (sz L + 1) = 1048576 + (sz L + 1) by omega]
    rfl
   ·have hP : Pl (1 + sz L) (i + 2) (mkP (sz L + 1) 1 n m o) := ⟨by show (sz L : Int) + 1 = _; omega, g1, g2, by show ((fr n.toNat m).length : Int) = n; rw [Zmd]; omega, rfl, rfl, by show (1 : Int) ≤ 1; omega, by show (1 : Int) ≤ _; omega, g3⟩
    have hgl : ∀ j : Nat, j < L.length → (L ++ [mkP (sz L + 1) 1 n m o]).getD j RI.z = L.getD j RI.z := fun j hj => ZkD hj
    refine ⟨I.w1, I.w2, ?_, by simp, by simp; omega, rfl, rfl, ?_, by omega, fun j hj => ?_, fun q hq => ?_, by have := I.mn; simp; omega, fun x hx => ?_⟩
    ·have e : ((i + 1 : Nat) : Int) + 1 = i + 2 := by omega
     rw [e]
     exact Ok.join (I.ok.up (by omega)) hP trivial
    ·rw [Zo3, ZeH]
     have : sz [] = 0 := rfl
     have : (mkP (sz L + 1) 1 n m o).a4.toNat = n.toNat := rfl
     omega
    ·have := I.fk j hj; simp; omega
    ·rw [I.ww q hq]
     unfold wf
     have hfe : Fr.filter (fl4 (L ++ [mkP (sz L + 1) 1 n m o]) q) = Fr.filter (fl4 L q) := List.filter_congr fun x hx => by
      unfold fl4
      rw [hgl x.toNat (by have := I.fk x hx; omega)]
     rw [hfe]
     exact List.map_congr_left fun x hx => by rw [hgl x.toNat (by have := I.fk x (List.mem_filter.1 hx).1; omega)]
    ·rcases List.mem_append.1 hx with hx | hx
     ·exact I.mb x hx
     ·rw [List.mem_singleton.1 hx]; show 1048576 + ((sz L : Int) + 1) ≤ _; omega
 ·-- a place that waits
  have hk' : 0 ≤ k' ∧ k' < L.length := I.fk k' (by rw [hF]; simp)
  obtain ⟨k, rfl⟩ : ∃ k : Nat, k' = (k : Int) := ⟨k'.toNat, by omega⟩
  have hk : k < L.length := by omega
  have hp4 : (L.getD k RI.z).a4 = n := by
   unfold fl4 at hp
   have := of_decide_eq_true hp
   rw [Zbp] at this
   omega
  obtain ⟨p1, p2, p3⟩ := I.at_ hk
  obtain ⟨i1, i2, i3⟩ := I.ix hk
  have a1 := p1.ad; have a2 := p1.fl; have a3 := p1.g1; have a4 := p1.g2
  have hBw : wf L B n.toNat = [] := by unfold wf; rw [hB]; rfl
  have hWk : W n.toNat = wf L A n.toNat ++ [(L.getD k RI.z).a0] := by
   rw [hWn, hF, Zo5, Zpg, hp, hBw, Zbp]; rfl
  have hlw : lw W n.toNat = (L.getD k RI.z).a0 := by
   show (W n.toNat).getD ((W n.toNat).length - 1) 0 = _
   rw [hWk]; simp
  have hpw : pw W n.toNat = wf L A n.toNat := by
   show (W n.toNat).take ((W n.toNat).length - 1) = _
   rw [hWk]; simp
  have hiw : iw W n.toNat = sz (L.take k) := by
   show i64.wrap (lw W n.toNat - 1) = _
   rw [hlw]; exact i1
  have hhw : hw H W n.toNat = pl (L.getD k RI.z) := by
   show H.getD (iw W n.toNat).toNat RG.z = _
   rw [hiw]; exact i3
  have hwl : 0 < (W n.toNat).length := by rw [hWk]; simp
  have hwl2 : (W n.toNat).length ≤ 1000 := by rw [hWn]; have := ZrK L Fr n.toNat; omega
  have hgw : i64.wrap ((L.getD k RI.z).a3 + 1) = (L.getD k RI.z).a3 + 1 := w64 (by omega) (by omega)
  have hpl : Pl (1 + sz (L.take k)) (i + 2) (mkP (L.getD k RI.z).a0 ((L.getD k RI.z).a3 + 1) n m o) := ⟨a1, g1, g2, by show ((fr n.toNat m).length : Int) = n; rw [Zmd]; omega, rfl, rfl, by show (1 : Int) ≤ (L.getD k RI.z).a3 + 1; omega, by show (L.getD k RI.z).a3 + 1 ≤ _; omega, g3⟩
  have hsp := Zfd hk
  have hsl : L.set k (mkP (L.getD k RI.z).a0 ((L.getD k RI.z).a3 + 1) n m o) = L.take k ++ mkP (L.getD k RI.z).a0 ((L.getD k RI.z).a3 + 1) n m o :: L.drop (k + 1) := by
   rw [List.set_eq_take_append_cons_drop, if_pos hk]
  have hvt : (vl (L.take k)).length = sz (L.take k) := by
   have hk'' := I.ok
   rw [hsp] at hk''
   exact Zgo hk''.split.1
  have hfill : Zbs (L.getD k RI.z).a0 ((L.getD k RI.z).a3 + 1) n m 1 o w H V (uw W n.toNat) N = some (.r0 (vl (L.set k (mkP (L.getD k RI.z).a0 ((L.getD k RI.z).a3 + 1) n m o)))) := by
   have e1 : V = (vl (L.take k) ++ [RF.z]) ++ ((L.getD k RI.z).a8 ++ vl (L.drop (k + 1))) := by
    rw [I.vv]
    conv => lhs; rw [hsp]
    rw [Zgn, ZeG]; simp
   have e2 : vl (L.set k (mkP (L.getD k RI.z).a0 ((L.getD k RI.z).a3 + 1) n m o)) = (vl (L.take k) ++ [RF.z]) ++ (fr n.toNat m ++ vl (L.drop (k + 1))) := by
    rw [hsl, Zgn, ZeG]; simp [mkP]
   rw [e1, e2]
   exact ZpC (by omega) (by omega) (by rw [List.length_append, List.length_singleton]; omega) (by omega) g2 (by omega) (by omega)
  have J := I.set hk hpl hp4.symm rfl (V' := vl (L.set k (mkP (L.getD k RI.z).a0 ((L.getD k RI.z).a3 + 1) n m o))) rfl
  have hskj : ∀ j : Nat, (A.length : Int) < j → j < Fr.length → ¬ (L.getD (Fr.getD j 0).toNat RI.z).a4 = n := fun j h1 h2 h => by
   have hlen : Fr.length = A.length + (1 + B.length) := by rw [hF]; simp; omega
   have e : Fr.getD j 0 = B.getD (j - A.length - 1) 0 := by
    rw [hF, List.getD_eq_getElem?_getD, List.getElem?_append_right (by omega), show j - A.length = (j - A.length - 1) + 1 by omega, List.getElem?_cons_succ, ← List.getD_eq_getElem?_getD]
    rfl
   have hm : B.getD (j - A.length - 1) 0 ∈ B.filter (fl4 L n.toNat) := by
    rw [List.mem_filter]
    refine ⟨?_, ?_⟩
    ·rw [List.getD_eq_getElem?_getD, List.getElem?_eq_getElem (by omega), Option.getD_some]; exact List.getElem_mem _
    ·unfold fl4; rw [hn, ← e]; exact decide_eq_true h
   rw [hB] at hm; cases hm
  obtain ⟨R, hR, hRR⟩ := ZtF (w := w) (o := o) (A := A) (B := B) (Fr := Fr) hk hp4 g1 g2 g3 (by omega) a3 (by omega) (by omega) (by omega) (by omega) hF (by omega) hN
  have hdoc : Zaq w L Fr n m o N = some R := by
   refine ZmS hg (by omega) ?_
   have hlen : Fr.length = A.length + (1 + B.length) := by rw [hF]; simp; omega
   obtain ⟨fu, hfu⟩ : ∃ fu, N = B.length + (fu + 1) := ⟨N - B.length - 1, by omega⟩
   have := skip (w := w) (N := N) (m := m) (o := o) (n := n) (lo := (A.length : Int)) I.fk (by omega) (by omega) hskj B.length ((Fr.length : Int) - 1) (fu + 1) (by omega) (by omega)
   rw [← hfu] at this
   rw [this]
   exact Zb7 hR
  refine .inr ⟨((L.getD k RI.z).a3 + 1) * 1048576 + (L.getD k RI.z).a0, H.set (sz (L.take k)) (pl (mkP (L.getD k RI.z).a0 ((L.getD k RI.z).a3 + 1) n m o)), vl (L.set k (mkP (L.getD k RI.z).a0 ((L.getD k RI.z).a3 + 1) n m o)), uw W n.toNat, L.set k (mkP (L.getD k RI.z).a0 ((L.getD k RI.z).a3 + 1) n m o), A ++ B, R, ?_, hdoc, ?_, ?_⟩
  ·refine Zb wpos <| Zi (by omega) <| Zi (by omega) <| Zi (by omega) <| Zi (by omega) <| Zi (by omega) <| Zi (by omega) <| Zph (by omega) (by omega) ?_
   show (if 0 < ((W n.toNat).length : Int) then (if ((W n.toNat).length : Int) - 1 ≤ 9223372036854775807 then (if 0 ≤ iw W n.toNat then (if (iw W n.toNat).toNat < H.length then ((Zbs (lw W n.toNat) (i64.wrap ((hw H W n.toNat).a0 + 1)) n m 1 o w H V (uw W n.toNat) N).bind fun r => match r with
    | .r0 y12_0 => ((ZaS (i64.wrap ((hw H W n.toNat).a0 + 1)) (lw W n.toNat) N).bind fun r => match r with
     | .r0 y13_0 y13_1 y13_2 => some (.r0 y13_0 y13_1 y13_2 (H.set (iw W n.toNat).toNat ⟨i64.wrap ((hw H W n.toNat).a0 + 1), n, m, 1, o⟩) y12_0 (uw W n.toNat) : heap_Heap_AllocR))) else none) else none) else none) else _) = _
   rw [hhw, hiw, hlw, show i64.wrap ((pl (L.getD k RI.z)).a0 + 1) = (L.getD k RI.z).a3 + 1 from hgw, Zbp]
   exact Zb (by omega) <| Zb (by omega) <| Zb (by omega) <| Zb i2 <| Zh hfill <| Zh (Zqq (by omega) (by omega) (by omega) (by omega)) rfl
  ·rcases hRR with ⟨h1, h2⟩ | h1
   ·exact .inl ⟨h1, h2⟩
   ·exact .inr (.inl h1)
  ·have hx4 : fl4 (L.set k (mkP (L.getD k RI.z).a0 ((L.getD k RI.z).a3 + 1) n m o)) = fl4 (L.set k (mkP (L.getD k RI.z).a0 ((L.getD k RI.z).a3 + 1) n m o)) := rfl
   refine { J with fn := ?_, fk := fun j hj => ?_, ww := fun q hq => ?_, mn := by have := I.mn; simp; omega, mb := fun x hx => ?_ }
   ·have hlen : Fr.length = A.length + (1 + B.length) := by rw [hF]; simp; omega
    rw [List.length_append]; omega
   ·refine J.fk j ?_
    rw [hF]
    rcases List.mem_append.1 hj with hj | hj
    ·exact List.mem_append_left _ hj
    ·exact List.mem_append_right _ (List.mem_cons_of_mem _ hj)
   ·have hset : ∀ Z, wf (L.set k (mkP (L.getD k RI.z).a0 ((L.getD k RI.z).a3 + 1) n m o)) Z q = wf L Z q := fun Z => Zu5 (q := mkP (L.getD k RI.z).a0 ((L.getD k RI.z).a3 + 1) n m o) hk hp4.symm rfl Z q
    rw [hset, Zo5]
    by_cases hq2 : q = n.toNat
    ·subst hq2
     show Zkk W n.toNat (pw W n.toNat) n.toNat = _
     rw [Zp8, hpw, hBw, List.append_nil]
    ·show Zkk W n.toNat (pw W n.toNat) q = _
     have hfn : fl4 L q (k : Int) = false := by unfold fl4; rw [Zbp, hp4]; exact decide_eq_false (by omega)
     rw [Zoa hq2, I.ww q hq, hF, Zo5, Zpg, hfn]
     rfl
   ·rcases List.mem_append.1 hx with hx | hx
    ·exact I.mb x hx
    ·rw [List.mem_singleton.1 hx]; show ((L.getD k RI.z).a3 + 1) * 1048576 + (L.getD k RI.z).a0 ≤ _; omega
end
end Hl
end Ev
end Go.Proofs.Ytomkpfibofpkbaa
namespace Go.Proofs.Ytomkpfibofpkbaa
open Go.RowKit
namespace Ev
set_option linter.unusedVariables false
set_option linter.unusedSimpArgs false
set_option maxRecDepth 100000
namespace Hl
section
variable {i : Nat} {w : Int} {L : List PA} {Fr : List Int} {Md : List RF} {H : List RG} {V : List RF} {W : Nat → List Int} {N : Nat} {K Q : Int} {a0 a1 a2 a3 a4 a6 a7 a8 a9 : Int} {b5 : Bool}
theorem tm {a : Int} {n : Nat} (h : 0 ≤ a) (hn : 0 < n) : 0 ≤ Int.tmod a (n : Int) ∧ (Int.tmod a (n : Int)).toNat < n := by
  rw [Int.tmod_eq_emod_of_nonneg h]
  have h1 := Int.emod_nonneg a (show (n : Int) ≠ 0 by omega)
  have h2 := Int.emod_lt_of_pos a (show (0 : Int) < n by omega)
  omega
theorem Zu8 (hb : ∀ x ∈ Md, x.a1 ≤ 9223372036854775807) {k : Nat} (h : k < Md.length) : (Md.getD k RF.z).a1 ≤ 9223372036854775807 := by
  rw [List.getD_eq_getElem?_getD, List.getElem?_eq_getElem h, Option.getD_some]
  exact hb _ (List.getElem_mem _)
theorem Zu9 (h4 : 0 ≤ a4 ∧ a4 ≤ 255) (h7 : a7 ≤ 9223372036854775807) (hb : ∀ x ∈ Md, x.a1 ≤ 9223372036854775807) : ∃ K Q, Zbx a0 a1 a2 a3 a4 b5 a6 a7 a8 a9 w L Fr Md w H V W N = some (.r0 K Q) ∧ Q ≤ 9223372036854775807 := by
  by_cases hb5 : b5 = true
  · exact ⟨a6, a7, Zb hb5 rfl, h7⟩
  by_cases hm : Md.length = 0
  · exact ⟨a6, a7, Zi hb5 <| Zb (by omega) rfl, h7⟩
  · obtain ⟨t1, t2⟩ := tm h4.1 (show 0 < Md.length by omega)
    exact ⟨_, _, Zi hb5 <| Zi (by omega) <| Zb (by omega) <| Zb (by omega) <| Zb t1 <| Zb t2 rfl, Zu8 hb t2⟩
theorem Zv5 (h4 : 0 ≤ a4 ∧ a4 ≤ 255) (h9 : a9 ≤ 9223372036854775807) (hb : ∀ x ∈ Md, x.a1 ≤ 9223372036854775807) : ∃ K Q, (∀ V, ZaP a0 a1 a2 a3 a4 b5 a6 a7 a8 a9 w L Fr Md w H V W N = some (.r0 K Q)) ∧ Q ≤ 9223372036854775807 := by
  by_cases h8 : a8 = 2
  · by_cases hb5 : b5 = true
    · exact ⟨a8, a9, fun V => Zb h8 <| Zb hb5 rfl, h9⟩
    by_cases hm : Md.length = 0
    · exact ⟨a8, a9, fun V => Zb h8 <| Zi hb5 <| Zi (by omega) rfl, h9⟩
    · obtain ⟨t1, t2⟩ := tm (show 0 ≤ a4 / 2 by omega) (show 0 < Md.length by omega)
      exact ⟨_, _, fun V => Zb h8 <| Zi hb5 <| Zb (by omega) <| Zb (by omega) <| Zb (by omega) <| Zb (by omega) <| Zb t1 <| Zb t2 rfl, Zu8 hb t2⟩
  · exact ⟨a8, a9, fun V => Zi h8 rfl, h9⟩
theorem Inv.alloc_step (I : Inv i w L Fr Md H V W) (hi : i ≤ 59) (hN : 2000 ≤ N) : ∃ L' Fr' Md' H' V' W', ((Zaw a1 a2 a3 w H V W N).bind fun r => match r with
        | .r0 y3_0 y3_1 y3_2 y3_3 y3_4 y3_5 =>
          ((Zaq w L Fr a1 a2 a3 N).bind fun r => match r with
          | .r0 y4_0 =>
            if y4_0 = (0 : Int) then
              if Md.length ≤ 100000 then
                if (y3_0 = (0 : Int) ∧ y3_1 = (0 : Int)) then
                  if y3_2 = y4_0 then
                    some (.r0 (true) L Fr ((Md ++ ([(⟨(0 : Int), (0 : Int)⟩ : RF)] : List RF))) (y3_3) (y3_4) (y3_5) : Ze)
                  else
                  some (.r0 (false) L Fr ((Md ++ ([(⟨(0 : Int), (0 : Int)⟩ : RF)] : List RF))) (y3_3) (y3_4) (y3_5) : Ze)
                else
                some (.r0 (false) L Fr ((Md ++ ([(⟨(0 : Int), (0 : Int)⟩ : RF)] : List RF))) (y3_3) (y3_4) (y3_5) : Ze)
              else
              none
            else
            if (y3_0 = (0 : Int) ∧ y3_1 = (0 : Int)) then
              if y3_2 = y4_0 then
                some (.r0 (true) L Fr Md (y3_3) (y3_4) (y3_5) : Ze)
              else
              some (.r0 (false) L Fr Md (y3_3) (y3_4) (y3_5) : Ze)
            else
            some (.r0 (false) L Fr Md (y3_3) (y3_4) (y3_5) : Ze)
          | .r1 y4_0 y4_1 y4_2 =>
            if Md.length ≤ 100000 then
              if (y3_0 = y4_1 ∧ y3_1 = y4_2) then
                if y3_2 = (0 : Int) then
                  some (.r0 (true) (y4_0) (([] : List Int)) ((Md ++ ([(⟨y4_1, y4_2⟩ : RF)] : List RF))) (y3_3) (y3_4) (y3_5) : Ze)
                else
                some (.r0 (false) (y4_0) (([] : List Int)) ((Md ++ ([(⟨y4_1, y4_2⟩ : RF)] : List RF))) (y3_3) (y3_4) (y3_5) : Ze)
              else
              some (.r0 (false) (y4_0) (([] : List Int)) ((Md ++ ([(⟨y4_1, y4_2⟩ : RF)] : List RF))) (y3_3) (y3_4) (y3_5) : Ze)
            else
            none
          | .r2 y4_0 y4_1 y4_2 y4_3 =>
            if Md.length ≤ 100000 then
              if (y3_0 = y4_2 ∧ y3_1 = y4_3) then
                if y3_2 = (0 : Int) then
                  some (.r0 (true) (y4_0) (y4_1) ((Md ++ ([(⟨y4_2, y4_3⟩ : RF)] : List RF))) (y3_3) (y3_4) (y3_5) : Ze)
                else
                some (.r0 (false) (y4_0) (y4_1) ((Md ++ ([(⟨y4_2, y4_3⟩ : RF)] : List RF))) (y3_3) (y3_4) (y3_5) : Ze)
              else
              some (.r0 (false) (y4_0) (y4_1) ((Md ++ ([(⟨y4_2, y4_3⟩ : RF)] : List RF))) (y3_3) (y3_4) (y3_5) : Ze)
            else
            none
          | .r3 y4_0 y4_1 y4_2 =>
            if Md.length ≤ 100000 then
              if (y3_0 = y4_1 ∧ y3_1 = y4_2) then
                if y3_2 = (0 : Int) then
                  some (.r0 (true) (y4_0) Fr ((Md ++ ([(⟨y4_1, y4_2⟩ : RF)] : List RF))) (y3_3) (y3_4) (y3_5) : Ze)
                else
                some (.r0 (false) (y4_0) Fr ((Md ++ ([(⟨y4_1, y4_2⟩ : RF)] : List RF))) (y3_3) (y3_4) (y3_5) : Ze)
              else
              some (.r0 (false) (y4_0) Fr ((Md ++ ([(⟨y4_1, y4_2⟩ : RF)] : List RF))) (y3_3) (y3_4) (y3_5) : Ze)
            else
            none
          )
        ) = some (.r0 true L' Fr' Md' H' V' W') ∧ Inv (i + 1) w L' Fr' Md' H' V' W' := by
  have hm := I.mn
  rcases I.alloc hi hN a1 a2 a3 with ⟨e, he, h1, h2⟩ | ⟨Q, H', V', W', L', Fr', R, h1, h2, h3, J⟩
  · exact ⟨L, Fr, Md, H, V, W, Zh h1 <| Zh h2 <| Zi he <| Zb ⟨rfl, rfl⟩ <| Zb rfl rfl, I.up⟩
  · refine ⟨L', Fr', Md ++ [⟨2, Q⟩], H', V', W', Zh h1 <| Zh h2 ?_, J⟩
    rcases h3 with ⟨rfl, rfl⟩ | rfl | ⟨rfl, rfl⟩
    · exact Zb (by omega) <| Zb ⟨rfl, rfl⟩ <| Zb rfl rfl
    · exact Zb (by omega) <| Zb ⟨rfl, rfl⟩ <| Zb rfl rfl
    · exact Zb (by omega) <| Zb ⟨rfl, rfl⟩ <| Zb rfl rfl
theorem Inv.step (I : Inv i w L Fr Md H V W) (hi : i ≤ 59) (hN : 2000 ≤ N) (h0 : 0 ≤ a0) (h4 : 0 ≤ a4 ∧ a4 ≤ 255) (h7 : a7 ≤ 9223372036854775807) (h9 : a9 ≤ 9223372036854775807) : ∃ L' Fr' Md' H' V' W', Zbl a0 a1 a2 a3 a4 b5 a6 a7 a8 a9 w L Fr Md w H V W N = some (.r0 true L' Fr' Md' H' V' W') ∧ Inv (i + 1) w L' Fr' Md' H' V' W' := by
  have wpos : 0 < w := by have := I.w1; omega
  obtain ⟨K, Q, hr, hQ⟩ := Zu9 (a0 := a0) (a1 := a1) (a2 := a2) (a3 := a3) (a6 := a6) (a8 := a8) (a9 := a9) (b5 := b5) (w := w) (L := L) (Fr := Fr) (H := H) (V := V) (W := W) (N := N) h4 h7 I.mb
  obtain ⟨vK, vQ, hv, hvQ⟩ := Zv5 (a0 := a0) (a1 := a1) (a2 := a2) (a3 := a3) (a6 := a6) (a7 := a7) (a8 := a8) (b5 := b5) (w := w) (L := L) (Fr := Fr) (H := H) (W := W) (N := N) h4 h9 I.mb
  by_cases c0 : a0 % 8 = 0
  · obtain ⟨L', Fr', Md', H', V', W', h, J⟩ := I.alloc_step (a1 := a1) (a2 := a2) (a3 := a3) hi hN
    exact ⟨L', Fr', Md', H', V', W', Zh hr <| Zb h0 <| Zb c0 h, J⟩
  by_cases c1 : a0 % 8 = 1
  · obtain ⟨L', Fr', Md', H', V', W', h, J⟩ := I.alloc_step (a1 := a1) (a2 := a2) (a3 := a3) hi hN
    exact ⟨L', Fr', Md', H', V', W', Zh hr <| Zb h0 <| Zi c0 <| Zb c1 h, J⟩
  by_cases c2 : a0 % 8 = 2
  · rcases I.release (K := K) (Q := Q) hi hQ hN with ⟨e, h1, h2⟩ | ⟨H', L', W', Fr', h1, h2, J⟩
    · exact ⟨L, Fr, Md, H, V, W, Zh hr <| Zb h0 <| Zi c0 <| Zi c1 <| Zb c2 <| Zh h1 <| Zh h2 <| Zb rfl rfl, I.up⟩
    · exact ⟨L', Fr', Md, H', V, W', Zh hr <| Zb h0 <| Zi c0 <| Zi c1 <| Zb c2 <| Zh h1 <| Zh h2 <| Zb rfl rfl, J⟩
  by_cases c3 : a0 % 8 = 3
  · obtain ⟨a, b, e, h1, h2⟩ := I.load (K := K) (Q := Q) (by omega) hQ hN a1
    exact ⟨L, Fr, Md, H, V, W, Zh hr <| Zb h0 <| Zi c0 <| Zi c1 <| Zi c2 <| Zb c3 <| Zh h1 <| Zh h2 <| Zb ⟨rfl, rfl⟩ <| Zb rfl rfl, I.up⟩
  by_cases c4 : a0 % 8 = 4
  · obtain ⟨e, V', L', h1, h2, J⟩ := I.store (K := K) (Q := Q) (by omega) hQ hN a1 vK vQ hvQ
    exact ⟨L', Fr, Md, H, V', W, Zh hr <| Zb h0 <| Zi c0 <| Zi c1 <| Zi c2 <| Zi c3 <| Zb c4 <| Zh (hv V) <| Zh h1 <| Zh (hv V') <| Zh h2 <| Zb rfl rfl, J⟩
  by_cases c5 : a0 % 8 = 5
  · obtain ⟨e, V', L', h1, h2, J⟩ := I.store (K := K) (Q := Q) (by omega) hQ hN a1 vK vQ hvQ
    exact ⟨L', Fr, Md, H, V', W, Zh hr <| Zb h0 <| Zi c0 <| Zi c1 <| Zi c2 <| Zi c3 <| Zi c4 <| Zb c5 <| Zh (hv V) <| Zh h1 <| Zh (hv V') <| Zh h2 <| Zb rfl rfl, J⟩
  by_cases c6 : a0 % 8 = 6
  · have hgo : ∀ {r}, _ = some r → Zbl a0 a1 a2 a3 a4 b5 a6 a7 a8 a9 w L Fr Md w H V W N = some r := fun {r} h => Zh hr <| Zb h0 <| Zi c0 <| Zi c1 <| Zi c2 <| Zi c3 <| Zi c4 <| Zi c5 <| Zb c6 h
    obtain ⟨e, H', L', p1, p2, J⟩ := I.put (K := K) (Q := Q) (by omega) hQ hN a2
    by_cases d1 : 8 ≤ a2
    · by_cases d2 : a2 % 2 = 0
      · rcases I.share (K := K) (Q := Q) (by omega) hQ hN with ⟨e, k, he, h1, h2⟩ | ⟨k, hk, hs, h1, h2⟩ | ⟨k, H', L', hk, hs, h1, h2, h3, J⟩
        · exact ⟨L, Fr, Md, H, V, W, hgo (Zb d1 <| Zb d2 <| Zh h1 <| Zh h2 <| Zb he <| Zb rfl rfl), I.up⟩
        · exact ⟨L, Fr, Md, H, V, W, hgo (Zb d1 <| Zb d2 <| Zh h1 <| Zh h2 <| Zi (fun h => h rfl) <| Zb (by omega) <| Zb (by omega) <| Zb (by rw [Zbp]; exact hs) <| Zb rfl rfl), I.up⟩
        · exact ⟨L', Fr, Md, H', V, W, hgo (Zb d1 <| Zb d2 <| Zh h1 <| Zh h2 <| Zi (fun h => h rfl) <| Zb (by omega) <| Zb (by omega) <| Zi (by rw [Zbp]; exact fun h => h hs) <| Zh h3 <| Zb rfl rfl), J⟩
      · exact ⟨L', Fr, Md, H', V, W, hgo (Zb d1 <| Zi d2 <| Zh p1 <| Zh p2 <| Zb rfl rfl), J⟩
    · exact ⟨L', Fr, Md, H', V, W, hgo (Zi d1 <| Zh p1 <| Zh p2 <| Zb rfl rfl), J⟩
  · have hf := I.fork (N := N) (by omega)
    have hst : ∀ {r}, _ = some r → Zbl a0 a1 a2 a3 a4 b5 a6 a7 a8 a9 w L Fr Md w H V W N = some r := fun {r} h => Zh hr <| Zb h0 <| Zi c0 <| Zi c1 <| Zi c2 <| Zi c3 <| Zi c4 <| Zi c5 <| Zi c6 <| Zh hf h
    have hvo : ZaS 1 1 N = some (.r0 2 (1 * 1048576 + 1) 0) := Zqq (by decide) (by decide) (by decide) (by decide)
    refine ⟨L, Fr, Md, H, V, W, hst ?_, I.up⟩
    rcases I.alloc hi hN 3 0 0 with ⟨e, he, h1, h2⟩ | ⟨Q, H', V', W', L', Fr', R, h1, h2, h3, J⟩
    · obtain ⟨e, V', L', q1, q2, J⟩ := I.store (K := 2) (Q := 1 * 1048576 + 1) (by omega) (by decide) hN 8 1 77 (by decide)
      exact Zh h1 <| Zb wpos <| Zh hvo <| Zh q1 rfl
    · obtain ⟨e, V', L', q1, q2, J⟩ := J.store (K := 2) (Q := 1 * 1048576 + 1) (by omega) (by decide) hN 8 1 77 (by decide)
      exact Zh h1 <| Zb wpos <| Zh hvo <| Zh q1 rfl
theorem ZvB {g : Int} : ∀ {L : List PA} {a : Int}, Ok g a L → ∀ p ∈ L, p.a8.length ≤ 16
  | p :: L, a, h, q, hq => by
    rcases List.mem_cons.1 hq with rfl | hq
    · have := h.1.fl; have := h.1.f2; omega
    · exact ZvB h.2 q hq
theorem Inv.same (I : Inv i w L Fr Md H V W) (hi : i ≤ 60) (hN : 2000 ≤ N) (h4 : 0 ≤ a4 ∧ a4 ≤ 255) (h7 : a7 ≤ 9223372036854775807) : Zcf a0 a1 a2 a3 a4 b5 a6 a7 a8 a9 w L Fr Md w H V W N = some (.r0 true) := by
  have wpos : 0 < w := by have := I.w1; omega
  have hl := I.ln; have h1 := I.sw; have h2 := I.w2
  obtain ⟨K, Q, hr, hQ⟩ := Zu9 (a0 := a0) (a1 := a1) (a2 := a2) (a3 := a3) (a6 := a6) (a8 := a8) (a9 := a9) (b5 := b5) (w := w) (L := L) (Fr := Fr) (H := H) (V := V) (W := W) (N := N) h4 h7 I.mb
  obtain ⟨a, b, c, d, e, f, p1, p2⟩ := I.head (K := K) (Q := Q) hi hQ hN
  have hP : Za9 w H V W N = some (obP (fl L)) := by rw [I.hh, I.vv]; exact Zwm (g := i + 1) wpos (by omega) I.ok (by omega) (by omega) hN
  have hD : Zbv w L Fr N = some (obD (fl L)) := Zwl (by omega) hN
  have hA : ZbL (fl L) (fl L) N = some (.r0 true) := ZwG (by have := ZrI L; omega) (fun x hx => by
    unfold fl at hx
    obtain ⟨p, hp, rfl⟩ := List.mem_map.1 hx
    have := ZvB I.ok p (List.mem_filter.1 hp).1
    show p.a8.length ≤ 1000
    omega) hN
  have hU : Zav w H V W N = some (.r0 (sz L : Int)) := (Zb wpos rfl : Zav w H V W N = some (.r0 (H.length : Int))).trans (by rw [I.hh]; rfl)
  have hU2 : Zcd w L Fr N = some (.r0 (sz L : Int)) := ZsQ I.ok (by omega) (by omega) hN
  have hvo : ZaS 1 1 N = some (.r0 2 (1 * 1048576 + 1) 0) := Zqq (by decide) (by decide) (by decide) (by decide)
  have hro : Zag 1 1 N = some (.r0 2 (1 * 1048576 + 1)) := Zkv (by decide) (by decide) (by decide) (by decide)
  refine Zh hr <| Zh p1 <| Zh hr <| Zh p2 <| Zb ⟨rfl, rfl, rfl, rfl, rfl⟩ <| Zb rfl ?_
  cases h : fl L with
  | nil =>
    rw [h] at hP hD hA
    exact Zh hP <| Zh hD <| Zh hA <| Zb rfl <| Zh hU <| Zh hU2 <| Zb rfl <| Zb wpos <| Zh hvo <| Zh hro <| Zb ⟨rfl, rfl⟩ rfl
  | cons x l =>
    rw [h] at hP hD hA
    exact Zh hP <| Zh hD <| Zh hA <| Zb rfl <| Zh hU <| Zh hU2 <| Zb rfl <| Zb wpos <| Zh hvo <| Zh hro <| Zb ⟨rfl, rfl⟩ rfl
end
section
variable {w : Int} {O : List RJ} {N : Nat}
def opOk (y : RJ) : Prop := 0 ≤ y.a0 ∧ (0 ≤ y.a4 ∧ y.a4 ≤ 255) ∧ y.a7 ≤ 9223372036854775807 ∧ y.a9 ≤ 9223372036854775807
theorem ZpI (hN : 2000 ≤ N) (hO : ∀ y ∈ O, opOk y) : ∀ (m i n : Nat) (L : List PA) (Fr : List Int) (Md : List RF) (H : List RG) (V : List RF) (W : Nat → List Int), i + m = 60 → m < n → Inv i w L Fr Md H V W → Zbn (ZbV w O N) n (.h1m0 i L Fr Md H V W) = some (.r0 true)
  | 0, i, n, L, Fr, Md, H, V, W, hi, hn, I => by
    obtain ⟨n, rfl⟩ : ∃ m, n = m + 1 := ⟨n - 1, by omega⟩
    exact Zb7 (show ZbA w O N i L Fr Md H V W = _ from ZL (fun _ => Zi (by omega) rfl) fun _ => rfl)
  | m + 1, i, n, L, Fr, Md, H, V, W, hi, hn, I => by
    obtain ⟨n, rfl⟩ : ∃ m, n = m + 1 := ⟨n - 1, by omega⟩
    by_cases hl : i < O.length
    · have ho : opOk (O.getD i RJ.z) := by
        rw [List.getD_eq_getElem?_getD, List.getElem?_eq_getElem hl, Option.getD_some]
        exact hO _ (List.getElem_mem _)
      obtain ⟨o0, o4, o7, o9⟩ := ho
      obtain ⟨L', Fr', Md', H', V', W', h1, J⟩ := I.step (a1 := (O.getD i RJ.z).a1) (a2 := (O.getD i RJ.z).a2) (a3 := (O.getD i RJ.z).a3) (b5 := (O.getD i RJ.z).a5) (a6 := (O.getD i RJ.z).a6) (a8 := (O.getD i RJ.z).a8) (by omega) hN o0 o4 o7 o9
      have h2 := J.same (a0 := (O.getD i RJ.z).a0) (a1 := (O.getD i RJ.z).a1) (a2 := (O.getD i RJ.z).a2) (a3 := (O.getD i RJ.z).a3) (b5 := (O.getD i RJ.z).a5) (a6 := (O.getD i RJ.z).a6) (a8 := (O.getD i RJ.z).a8) (a9 := (O.getD i RJ.z).a9) (by omega) hN o4 o7
      have hs : ZbV w O N (.h1m0 i L Fr Md H V W) = some (.inl (.h1m0 (i + 1) L' Fr' Md' H' V' W')) := show ZbA w O N i L Fr Md H V W = _ from
        Zb (by omega) <| Zb (by omega) <| Zh h1 <| Zi (fun h => h rfl) <| Zh h2 <| Zi (fun h => h rfl) rfl
      exact (ZbY hs).trans (ZpI hN hO m (i + 1) n L' Fr' Md' H' V' W' (by omega) (by omega) J)
    · exact Zb7 (show ZbA w O N i L Fr Md H V W = _ from Zi (by omega) rfl)
theorem ZsT : ∀ (l : List (List Int)) (n : Nat), (∀ x ∈ l, x = []) → wOf l n = []
  | [], _, _ => rfl
  | x :: l, 0, h => h x (List.mem_cons_self ..)
  | x :: l, n + 1, h => ZsT l n fun y hy => h y (List.mem_cons_of_mem _ hy)
theorem runs (z0 : Int) (L1 : List RJ) (N : Nat) (hN : 2000 ≤ N) (hO : ∀ y ∈ L1, opOk y) : ZjA z0 L1 N = some (.r0 true) := by
  by_cases h1 : z0 < 17
  · exact Zhy (Zh (Zb h1 rfl : Zdw z0 N = some .r0) <| Zh (Zb h1 rfl : ZbT z0 N = some .r0) rfl)
  by_cases h2 : 65536 < z0
  · exact Zhy (Zh (Zi h1 <| Zb h2 rfl : Zdw z0 N = some .r0) <| Zh (Zi h1 <| Zb h2 rfl : ZbT z0 N = some .r0) rfl)
  have hw17 : IntKind.i64.wrap (16 + 1) = 17 := w64 (by decide) (by decide)
  have hw0 : IntKind.i64.wrap (1 - 1) = 0 := w64 (by decide) (by decide)
  have hgr : ZbS 1 16 255 2 0 z0 N = some (.r0 (vl [⟨1, 2, 1 * 1048576 + 1, 1, 16, 255, 2, 0, fr 16 255⟩])) := by
    unfold ZbS
    rw [hw17]
    refine Zb (by decide) <| Zb (by decide) ?_
    have e1 : List.replicate (17 : Int).toNat (⟨0, 0⟩ : RF) = [⟨0, 0⟩] ++ (List.replicate 16 ⟨0, 0⟩ ++ []) := rfl
    have e2 : vl [⟨1, 2, 1 * 1048576 + 1, 1, 16, 255, 2, 0, fr 16 255⟩] = [⟨0, 0⟩] ++ (fr (16 : Int).toNat 255 ++ []) := rfl
    rw [e1, e2]
    exact Zh (Zwj (by decide) (by decide) rfl (by simp) (by decide) (by simp) (by omega)) rfl
  have hn1 : Zdw z0 N = some (.r1 (vl [⟨1, 2, 1 * 1048576 + 1, 1, 16, 255, 2, 0, fr 16 255⟩])) := Zi h1 <| Zi h2 <| Zh hgr rfl
  have hn2 : ZbT z0 N = some (.r1 [⟨1, 2, 1 * 1048576 + 1, 1, 16, 255, 2, 0, fr 16 255⟩]) := Zi h1 <| Zi h2 <| Zh (Zkv (by decide) (by decide) (by decide) (by decide)) <| Zh (Zn2 (by decide) (by decide) (by decide) (by decide) (by omega)) rfl
  refine (Zfc (Zh hn1 <| Zh hn2 rfl)).trans ?_
  rw [hw17, hw0]
  refine ZpI hN hO 60 0 N _ _ _ _ _ _ rfl (by omega) ?_
  have hs : sz [(⟨1, 2, 1 * 1048576 + 1, 1, 16, 255, 2, 0, fr 16 255⟩ : PA)] = 17 := rfl
  refine ⟨by omega, by omega, ⟨⟨rfl, by decide, by decide, by show ((fr 16 255).length : Int) = 16; rw [Zmd]; rfl, rfl, rfl, by decide, by decide, by decide⟩, trivial⟩, by simp, by simp, rfl, rfl, by rw [hs]; omega, by simp, fun k hk => by simp at hk, fun n hn => ?_, by simp, fun x hx => by simp at hx⟩
  rw [Zu6]
  exact ZsT _ n fun x hx => by simp at hx; exact hx
end
end Hl
end Ev
end Go.Proofs.Ytomkpfibofpkbaa
/- A region that draws its order, whose first operations only read (and make memory in calls), and whose last ones, in a forced order among themselves, make and write new memory: but these may come up early. -/
namespace Go.Proofs.Ytomkpfibofpkbaa
open Go.RowKit

section
variable {P : Program}

def Calm (P : Program) (W : World) (o : Oper) (a : Act) (v : Value) : Prop :=
 ∀ w, Below W.heap.size W w → o.quietAt P a (fun w' => Below w.heap.size w w') w v

def YieldsC (P : Program) (ops : Array Oper) (W : World) (o : Oper) (v : Value) (a : Act) : Prop :=
 (Region.wanted o (yielded ops a.tmps) = true ∧ Calm P W o a v) ∨ (Region.wanted o (yielded ops a.tmps) = false ∧ v = undef)
theorem ZpJ {a b c : World} (h : Below a.heap.size a b) (k : Below b.heap.size b c) : Below a.heap.size a c := h.trans (k.mono h.size)

def Closed (md : Region.Mode) (ops : Array Oper) (listed : Array Bool) : Prop :=
 ∀ j oj, ops[j]? = some oj → listed.getD j false = true → ∀ e ∈ oj.after, Region.binds md e = true → listed.getD e.on false = true
def ZrL (md : Region.Mode) (ops : Array Oper) : Nat → Nat → Nat → Bool
 | 0, _, _ => false
 | f + 1, t, i => Region.waitsFor md ops t i || (List.range ops.size).any fun k => Region.waitsFor md ops t k && ZrL md ops f k i
theorem Closed.waits {md : Region.Mode} {ops : Array Oper} {listed : Array Bool} (h : Closed md ops listed) : ∀ (f t i : Nat), listed.getD t false = true → ZrL md ops f t i = true → listed.getD i false = true
 | 0, _, _, _, hw => by cases hw
 | f + 1, t, i, ht, hw => by
  simp only [ZrL, Bool.or_eq_true, List.any_eq_true, Bool.and_eq_true] at hw
  rcases hw with hw | ⟨k, _, hw, hr⟩
  ·obtain ⟨o, ho, e, he, hb, rfl⟩ := Region.waitsFor_spec hw
   exact h t o ho ht e he hb
  ·obtain ⟨o, ho, e, he, hb, rfl⟩ := Region.waitsFor_spec hw
   exact h.waits f e.on i (h t o ho ht e he hb) hr

theorem YieldsC.wpOp {ops : Array Oper} {W : World} {i : Nat} {o : Oper} {v : Value} {a : Act} {w : World} (hi : ops[i]? = some o) (hy : YieldsC P ops W o v a) (hb : Below W.heap.size W w)
  {K : Act → World → Prop} {Q : Exit → Act → World → Prop} (h : ∀ w', Below w.heap.size w w' → K (a.put o.dst v) w') : wpOp P ops Q i K a w := by
 unfold Go.wpOp
 simp only [hi]
 rcases hy with ⟨hw, hv⟩ | ⟨hw, rfl⟩
 ·simp only [hw, if_true]
  exact .inl (Oper.wp_of_quiet (C := fun w' => Below w.heap.size w w') (K := fun a' => a' = a.put o.dst v) (Below.refl _ _) (fun a' w' hw' ha => by subst ha; exact h w' hw')
   ⟨v, fun w1 hw1 => by
    have h1 := hv w1 (ZpJ hb hw1)
    unfold Oper.quietAt at h1 ⊢
    generalize (execOp a.eval o).run P w1 = r at *
    cases r with
    | ok n w' =>
     cases n <;> simp only [Oper.quietUpon] at h1 ⊢
     case value u => exact h1
     case skip => exact h1
     case enter f args => exact ⟨h1.1, h1.2.mono fun e w2 ⟨he, hb2⟩ => ⟨he, ZpJ hw1 hb2⟩⟩
    | halt x w' => simp only [Oper.quietUpon] at h1, rfl⟩)
 ·simp only [hw, Bool.false_eq_true, if_false]
  exact h w (Below.refl _ _)

end
theorem Has.grown {W W' : World} {b : Nat} {cs : List Value} {g : Nat} (h : Has W b cs) (hg : W.grownBy W' (some g)) (hne : b ≠ g) : Has W' b cs := by
 have e : W'.heap[b]? = W.heap[b]? := hg.block b h.1 (fun e => hne (by injection e))
 exact ⟨Nat.lt_of_lt_of_le h.1 hg.size, fun i v hi => ⟨(World.cell?_of_block (a := ⟨b, i, none⟩) e).trans (h.2 i v hi).1, (World.frozen?_of_block (a := ⟨b, i, none⟩) e).trans (h.2 i v hi).2⟩⟩
end Go.Proofs.Ytomkpfibofpkbaa
/- The law HeapRuns, for every input. -/
namespace Go.Proofs.Ytomkpfibofpkbaa
open Go.IntKind (i64)
open Go.ChangeShapes Go.WideShapes Go.ChangeAt Go.RowKit
namespace Ev
namespace HeapRuns
set_option linter.unusedVariables false
def el0R (x : RJ) : Prop := (IntKind.u8.min ≤ x.a0 ∧ x.a0 ≤ IntKind.u8.max) ∧ (i64.min ≤ x.a1 ∧ x.a1 ≤ i64.max) ∧ (i64.min ≤ x.a2 ∧ x.a2 ≤ i64.max) ∧ (i64.min ≤ x.a3 ∧ x.a3 ≤ i64.max) ∧ (IntKind.u8.min ≤ x.a4 ∧ x.a4 ≤ IntKind.u8.max) ∧ (i64.min ≤ x.a6 ∧ x.a6 ≤ i64.max) ∧ (i64.min ≤ x.a7 ∧ x.a7 ≤ i64.max) ∧ (i64.min ≤ x.a8 ∧ x.a8 ≤ i64.max) ∧ (i64.min ≤ x.a9 ∧ x.a9 ≤ i64.max)
theorem el0 {H : Type} {enc : TypeId × Value → H} {w : World} {cs : List Value} (hl : cs.length = 10) (h : Trd enc Try.prog w 43 cs) : ∃ x : RJ, DecL w cs (RE.cel x) ∧ el0R x := by
 have h0 := Zw6 (by kernel_rfl : Try.prog.cellsOf 43 = 10) hl h
 have h1 := ZcR 0 1 10 Try.underlying43 h0 0 (te := 5) (o' := 0) (by kernel_rfl) rfl (by kernel_rfl) (by kernel_rfl) (by decide)
 obtain ⟨x0, e0, b0⟩ := Zgd Try.underlying5 (by kernel_rfl) h1
 have h2 := ZcR 1 1 10 Try.underlying43 h0 1 (te := 3) (o' := 1) (by kernel_rfl) rfl (by kernel_rfl) (by kernel_rfl) (by decide)
 obtain ⟨x1, e1, b1⟩ := Zgd Try.underlying3 (by kernel_rfl) h2
 have h3 := ZcR 2 1 10 Try.underlying43 h0 2 (te := 3) (o' := 2) (by kernel_rfl) rfl (by kernel_rfl) (by kernel_rfl) (by decide)
 obtain ⟨x2, e2, b2⟩ := Zgd Try.underlying3 (by kernel_rfl) h3
 have h4 := ZcR 3 1 10 Try.underlying43 h0 3 (te := 3) (o' := 3) (by kernel_rfl) rfl (by kernel_rfl) (by kernel_rfl) (by decide)
 obtain ⟨x3, e3, b3⟩ := Zgd Try.underlying3 (by kernel_rfl) h4
 have h5 := ZcR 4 1 10 Try.underlying43 h0 4 (te := 5) (o' := 4) (by kernel_rfl) rfl (by kernel_rfl) (by kernel_rfl) (by decide)
 obtain ⟨x4, e4, b4⟩ := Zgd Try.underlying5 (by kernel_rfl) h5
 have h6 := ZcR 5 1 10 Try.underlying43 h0 5 (te := 4) (o' := 5) (by kernel_rfl) rfl (by kernel_rfl) (by kernel_rfl) (by decide)
 obtain ⟨x5, e5⟩ := ZvY Try.underlying4 (by kernel_rfl) h6
 have h7 := ZcR 6 2 10 Try.underlying43 h0 6 (te := 41) (o' := 6) (by kernel_rfl) rfl (by kernel_rfl) (by kernel_rfl) (by decide)
 have h8 := ZcR 0 1 2 Try.underlying41 h7 0 (te := 39) (o' := 6) (by kernel_rfl) rfl (by kernel_rfl) (by kernel_rfl) (by decide)
 obtain ⟨x6, e6, b6⟩ := Zgd Try.underlying39 (by kernel_rfl) h8
 have h9 := ZcR 1 1 2 Try.underlying41 h7 1 (te := 3) (o' := 7) (by kernel_rfl) rfl (by kernel_rfl) (by kernel_rfl) (by decide)
 obtain ⟨x7, e7, b7⟩ := Zgd Try.underlying3 (by kernel_rfl) h9
 have h10 := ZcR 8 2 10 Try.underlying43 h0 7 (te := 41) (o' := 8) (by kernel_rfl) rfl (by kernel_rfl) (by kernel_rfl) (by decide)
 have h11 := ZcR 0 1 2 Try.underlying41 h10 0 (te := 39) (o' := 8) (by kernel_rfl) rfl (by kernel_rfl) (by kernel_rfl) (by decide)
 obtain ⟨x8, e8, b8⟩ := Zgd Try.underlying39 (by kernel_rfl) h11
 have h12 := ZcR 1 1 2 Try.underlying41 h10 1 (te := 3) (o' := 9) (by kernel_rfl) rfl (by kernel_rfl) (by kernel_rfl) (by decide)
 obtain ⟨x9, e9, b9⟩ := Zgd Try.underlying3 (by kernel_rfl) h12
 refine ⟨(⟨x0, x1, x2, x3, x4, x5, x6, x7, x8, x9⟩ : RJ), ZvX (by rw [hl, Enc.clen]; rfl) (fun j y hy => ?_), ⟨b0, b1, b2, b3, b4, b6, b7, b8, b9⟩⟩
 have := (Ze7 (w := w) (k := 0) e0 .k (Ze7 (w := w) (k := 1) e1 .i (Ze7 (w := w) (k := 2) e2 .i (Ze7 (w := w) (k := 3) e3 .i (Ze7 (w := w) (k := 4) e4 .k (Ze7 (w := w) (k := 5) e5 .b (Ze7 (w := w) (k := 6) e6 .i (Ze7 (w := w) (k := 7) e7 .i (Ze7 (w := w) (k := 8) e8 .i (Ze7 (w := w) (k := 9) e9 .i (Zw5 (w := w)))))))))))) j y hy
 simpa using this
theorem own : ownKnob Try.prog.godebug = none := by kernel_rfl
set_option maxRecDepth 100000 in
theorem lifted (os : Os) (started : os.Started) (H : Type) (enc : TypeId × Value → H) :
  ReturnsInHanded {} Try.checked os 3 .any (Rows.heapRunsSpec.pre6 enc Try.prog Try.f3 Rows.heapRunsRow.domain false) (Rows.heapRunsSpec.post enc Try.prog Try.f3 false true false false) := by
 refine Zuk (C := Try.checked) own started (by kernel_rfl) Try.func3 rfl rfl Try.underlying4 ?_ (by kernel_rfl) (by kernel_rfl)
  (ChangeSpec.witness6 (enc := enc) (C := Try.checked) false ⟨#[], #[.int .i64 0, .slice none 0 0], []⟩ 8 (by kernel_rfl) (by kernel_rfl) (by kernel_rfl) (by kernel_rfl)) ?_
 ·intro ds hlen
  have hlen : ds.length = 2 := hlen.trans (by kernel_rfl)
  match ds, hlen with
  | [_, _], _ => rfl
 intro W base args ds p hval hA hlt hsz
 rw [Try.params3] at hA hval
 obtain ⟨v0, vs0, d0, ds0, p0, q0, hargs, rfl, rfl, h0, r0⟩ := trodAll_cons hA
 obtain ⟨v1, vs1, d1, ds1, p1, q1, rfl, rfl, rfl, h1, r1⟩ := trodAll_cons r0
 obtain ⟨rfl, rfl, rfl⟩ := trodAll_nil r1
 obtain rfl : args = #[v0, v1] := by cases args; simp_all
 obtain ⟨z0, rfl, w0⟩ := Zt4 (k := .i64) (by kernel_rfl) (Zt5 (by kernel_rfl) (hval 0 3 v0 rfl rfl))
 obtain ⟨a1, l1, c1, rfl⟩ := Go.WideShapes.okWide_slice Try.underlying22 (hval 1 22 v1 rfl rfl)
 obtain ⟨L1, u1, e1, D1, n1, m1⟩ := Zuv (E := RE) (Q := el0R) Try.underlying22 (by kernel_rfl) (by decide) (fun _ => el0) (ZvZ h1)
 obtain rfl : u1 = .slice a1 l1 c1 := by have := e1; simp [Value.cells] at this; exact this.symm
 exact Zw1 (ZkX z0 L1 100000 _ (Hl.runs z0 L1 100000 (by decide) (fun y hy => by
  obtain ⟨q0, q1, q2, q3, q4, q5, q6, q7, q8⟩ := m1 y hy
  have e1 : IntKind.u8.min = 0 := by decide
  have e2 : IntKind.u8.max = 255 := by decide
  have e3 : i64.max = 9223372036854775807 := by decide
  unfold Hl.opOk; omega))) (ZqU (.atom rfl) (ZqU (show VR (ιMk W) (ms RE L1) _ from D1.vr) ZvM)) rfl
theorem over : Rows.heapRunsRow.holds Try.pinned (OpenSpec.ofChange Rows.heapRunsSpec) :=
 OpenClaim.holds_of_wide 3 Try.f3 rfl rfl rfl rfl rfl rfl rfl ⟨rfl, rfl, rfl, rfl, rfl⟩ rfl rfl rfl rfl rfl (by kernel_rfl) Try.func3 (by kernel_rfl)
  (of_decide_eq_true (by kernel_rfl)) (by unfold Func.isWrapper; first | (rw [if_pos (by decide +kernel)]; kernel_rfl) | (rw [if_neg (by decide +kernel)]; exact ⟨rfl, rfl⟩))
  (fun os started H enc _ => lifted os started H enc)
theorem proved : Rows.HeapRunsSaid := over
#print axioms proved
end HeapRuns
end Ev
end Go.Proofs.Ytomkpfibofpkbaa
