/- Part 4. -/
import Derived.Test.YtifdgbbbojccdaaGreatZac
import Derived.Shelf.SlicesE.Clone
import Derived.Shelf.SlSortCmp.WholeK
import Derived.Shelf.SlSortCmp.NoneTotal
import Derived.Ground.SlgnProg
import Derived.Ground.SlsfProg
import Derived.Ground.SlgcProg
import Derived.Shelf.SlicesG.Cmp
/- What a function hands back in a block of its own, which nobody writes any more: a plain value. -/
namespace Go.Proofs.YtifdgbbbojccdaaGreat
open Go.RowKit
namespace Ev
set_option linter.unusedVariables false
section
variable {P : Program}
theorem Zjl {c c' : List Cell} {o : Nat} (h : Zao (code c) o c'.length = some c') : c' = (c.drop o).take c'.length ∧ c'.length ≤ (c.drop o).length := by
 unfold Zao at h
 rw [Zci] at h
 exact Zdj h
theorem ZoH {c c' : List Cell} {o : Nat} (h : c' = (c.drop o).take c'.length) (hl : c'.length ≤ (c.drop o).length) : Zao (code c) o c'.length = some c' := by
 unfold Zao
 rw [Zci]
 show Zl c'.length (c.drop o) = some c'
 rw [Zf1 _ _ hl, ← h]
theorem Zr6 {c c1 c2 : List Cell} {o o2 : Nat} (h : Zao (code c) o c1.length = some c1) (h2 : Zao (code c1) o2 c2.length = some c2) : Zao (code c) (o + o2) c2.length = some c2 := by
 obtain ⟨a1, a2⟩ := Zjl h
 obtain ⟨b1, b2⟩ := Zjl h2
 rw [List.length_drop] at a2 b2
 have e2 : c1.drop o2 = ((c.drop o).drop o2).take (c1.length - o2) := by rw [← List.drop_take, ← a1]
 refine ZoH ?_ (by rw [List.length_drop]; omega)
 rw [← List.drop_drop]
 conv => lhs; rw [b1, e2, List.take_take, Nat.min_eq_left b2]
noncomputable def ιFz (ι : Ren) (j b0 : Nat) (c : List Cell) : Ren := fun k => @ite _ (k < j ∨ (Zbi k ∧ ι k ≠ none)) (Classical.propDecidable _) (ι k) (@dite _ (∃ o c', k = Z7 b0 o (code c') ∧ Zao (code c) o c'.length = some c') (Classical.propDecidable _) (fun _ => some (b0, 0)) (fun _ => none))
theorem ιFz_old {ι : Ren} {j b0 k : Nat} {c : List Cell} (h : k < j ∨ (Zbi k ∧ ι k ≠ none)) : ιFz ι j b0 c k = ι k := by unfold ιFz; rw [if_pos h]
theorem ιFz_new {ι : Ren} {j b0 o : Nat} {c c' : List Cell} (hj : j ≤ 1000000000) (hn : ι (Z7 b0 o (code c')) = none) (h : Zao (code c) o c'.length = some c') : ιFz ι j b0 c (Z7 b0 o (code c')) = some (b0, 0) := by
 unfold ιFz
 rw [if_neg (fun q => q.elim (fun q => by have := ZdP b0 o (code c'); omega) (fun q => q.2 hn)), dif_pos ⟨o, c', rfl, h⟩]
theorem ιFz_inv {ι : Ren} {j b0 k : Nat} {c : List Cell} {q : Nat × Nat} (h : ιFz ι j b0 c k = some q) : ((k < j ∨ (Zbi k ∧ ι k ≠ none)) ∧ ι k = some q) ∨ (q = (b0, 0) ∧ ∃ o c', k = Z7 b0 o (code c') ∧ Zao (code c) o c'.length = some c') := by
 by_cases hk : k < j ∨ (Zbi k ∧ ι k ≠ none)
 ·rw [ιFz_old hk] at h; exact .inl ⟨hk, h⟩
 ·unfold ιFz at h
  rw [if_neg hk] at h
  by_cases hd : ∃ o c', k = Z7 b0 o (code c') ∧ Zao (code c) o c'.length = some c'
  ·rw [dif_pos hd] at h; injection h with h; exact .inr ⟨h.symm, hd⟩
  ·rw [dif_neg hd] at h; cases h
theorem ZoI {post : List (Option AObj)} {o : AObj} : lkO (post ++ [some o]) post.length = some o := by simp [lkO]
theorem ZgL {post : List (Option AObj)} {x : Option AObj} {k : Nat} {o : AObj} (h : lkO post k = some o) : k < post.length ∧ lkO (post ++ [x]) k = some o := by
 unfold lkO at h ⊢
 cases hx : post[k]? with
 | none => rw [hx] at h; cases h
 | some y =>
  have hk := (List.getElem?_eq_some_iff.1 hx).1
  exact ⟨hk, by rw [List.getElem?_append_left hk]; exact h⟩
theorem Zlm {post : List (Option AObj)} {x : Option AObj} {k : Nat} (h : isC (lkO post k) = true) : k < post.length ∧ isC (lkO (post ++ [x]) k) = true := by
 cases ho : lkO post k with
 | none => rw [ho] at h; cases h
 | some o => obtain ⟨h1, h2⟩ := ZgL (x := x) ho; rw [ho] at h; exact ⟨h1, by rw [h2]; exact h⟩
theorem Zr7 {ι : Ren} {w w' : World} {e : Ending} {pre : List AObj} {v v2 : Value} {post : List (Option AObj)} {c : List Cell} {t : TypeId} (hd : ∀ k, ι k ≠ none → k < pre.length ∨ Zbi k) (hfin : Fin P ι pre w v (post ++ [some (.cells (Zs c) t)]) e w') (hpre : pre.length ≤ post.length) (hle : post.length < 1000000000) (hUA : Zhh post.length post)
  (hv : ∀ (ι ι2 : Ren) v', (∀ k b, k < post.length ∨ Zbi k → ι k = some b → ι2 k = some b) → (∀ b, ι post.length = some b → ∃ q, ι2 (Z7 b.1 0 (code c)) = some q) → VR ι v v' → VR ι2 v2 v') : Fin P ι pre w v2 post e w' := by
 obtain ⟨v', ι', rfl, hS, hdm, hvr⟩ := hfin
 obtain ⟨b0, C, q1, q2, q3, q4⟩ := hS.emb.obj post.length (Zs c) t ZoI
 have hC0 : isC (lkO (post ++ [some (.cells (Zs c) t)]) post.length) = true := by rw [ZoI]; rfl
 have hno : ∀ base id, ι' (Z7 b0.1 base id) = none := fun base id => by
  cases hm : ι' (Z7 b0.1 base id) with
  | none => rfl
  | some q => exact absurd rfl ((hS.emb.mks _ _ _ _ hm).2.2 _ _ hC0 q1)
 have hι : ∀ k b, k < post.length ∨ Zbi k → ι' k = some b → ιFz ι' post.length b0.1 c k = some b := fun k b hk hb => by
  rw [ιFz_old (hk.imp id fun q => ⟨q, by rw [hb]; simp⟩)]; exact hb
 have hself : Zao (code c) 0 c.length = some c := ZoH (by simp) (by simp)
 have hj : ι post.length = none := by
  cases hk : ι post.length with
  | none => rfl
  | some b => exact absurd (hd post.length (by rw [hk]; simp)) (by unfold Zbi; omega)
 have hnew : w.heap.size ≤ b0.1 ∨ ∃ i d, isC (lk pre i) = true ∧ ι i = some d ∧ d.1 = b0.1 := hS.new _ _ hj q1
 have hlow : ∀ k b, k < post.length → ιFz ι' post.length b0.1 c k = some b → ι' k = some b := fun k b hk hb => by
  rwa [ιFz_old (.inl hk)] at hb
 refine ⟨v', ιFz ι' post.length b0.1 c, rfl, ⟨fun k b hb => hι k b ((hd k (by rw [hb]; simp)).imp (fun q => by omega) id) (hS.ext k b hb), ⟨fun k c' t' hk => ?_, fun k O hk => ?_, fun k k' b b' h1 h2 h3 h4 h5 => ?_, fun k b hb => ?_, fun b base id q hq => ?_⟩, hS.os, hS.tape, hS.output, hS.size, hS.frame, fun k b h1 h2 => ?_, fun k h1 h2 => ?_, fun k h1 h2 => ?_⟩, fun k hk => ?_, hv ι' _ v' hι (fun b hb => ?_) hvr⟩
 ·obtain ⟨hk1, hk2⟩ := ZgL (x := some (.cells (Zs c) t)) hk
  obtain ⟨b, D, r1, r2, r3, r4⟩ := hS.emb.obj k c' t' hk2
  have hcs : Zn (ZaR post.length 1) c' = true := Zll hUA k (.cells c' t') hk
  exact ⟨b, D, hι k b (.inl hk1) r1, r2, ⟨r3.1, fun i x y hx hy => VR.cutU hι 1 x y (r3.2 i x y hx hy) (ZO hcs x (List.mem_of_getElem? hx))⟩, r4⟩
 ·obtain ⟨hk1, hk2⟩ := ZgL (x := some (.cells (Zs c) t)) hk
  obtain ⟨b, r1, r2⟩ := hS.emb.ro k O hk2
  exact ⟨b, hι k b (.inl hk1) r1, r2⟩
 ·obtain ⟨g1, g2⟩ := Zlm (x := some (.cells (Zs c) t)) h1
  cases ho : lkO post k' with
  | none => rw [ho] at h2; cases h2
  | some o =>
   obtain ⟨g3, g4⟩ := ZgL (x := some (.cells (Zs c) t)) ho
   exact hS.emb.inj k k' b b' g2 (by rw [g4]; rfl) (hlow k b g1 h3) (hlow k' b' g3 h4) h5
 ·rcases ιFz_inv hb with ⟨_, h2⟩ | ⟨rfl, _⟩
  ·exact hS.emb.lt k b h2
  ·exact (show b0.1 < _ from hS.emb.lt _ _ q1)
 ·have hmk : ∀ b base id q, ι' (Z7 b base id) = some q → ιFz ι' post.length b0.1 c (Z7 b base id) = some q := fun b base id q h => hι _ _ (.inr (Zfy _ _ _)) h
  have hiso : ∀ k d, isC (lkO post k) = true → ιFz ι' post.length b0.1 c k = some d → d.1 ≠ b0.1 := fun k d hk hd2 hb => by
   obtain ⟨g1, g2⟩ := Zlm (x := some (.cells (Zs c) t)) hk
   have := hS.emb.inj k post.length d b0 g2 (Za8 hC0) (hlow k d g1 hd2) q1 hb
   omega
  rcases ιFz_inv hq with ⟨_, h2⟩ | ⟨rfl, o, c', hk, hg⟩
  ·obtain ⟨m1, m2, m3⟩ := hS.emb.mks b base id q h2
   refine ⟨m1, ⟨m2.1.on hmk, fun o c' hc => hmk _ _ _ _ (m2.2 o c' hc)⟩, fun k d hk hd2 => ?_⟩
   obtain ⟨g1, g2⟩ := Zlm (x := some (.cells (Zs c) t)) hk
   exact m3 k d g2 (hlow k d g1 hd2)
  ·obtain ⟨rfl, rfl, rfl⟩ := Zkm hk
   obtain ⟨a1, a2⟩ := Zjl hg
   rw [List.length_drop] at a2
   have hsz : (Zs c).length = c.length := by simp [Zs]
   refine ⟨rfl, ⟨⟨c', C, t, (0, 0), Zci c', q2, fun hp => by have := q3.1; omega, fun i x y hx hy => ?_⟩, fun o2 c2 hc2 => ιFz_new (by omega) (hno _ _) (Zr6 hg hc2)⟩, hiso⟩
   have hi : i < c'.length := by
    have := (List.getElem?_eq_some_iff.1 hx).1
    simpa [Zs] using this
   have hx2 : (Zs c)[base + i]? = some x := by
    unfold Zs at hx ⊢
    rw [List.getElem?_map] at hx ⊢
    rw [a1, List.getElem?_take_of_lt hi, List.getElem?_drop] at hx
    exact hx
   have hv2 := q3.2 (base + i) x y hx2 hy
   unfold Zs at hx2
   rw [List.getElem?_map] at hx2
   cases hz : c[base + i]? with
   | none => rw [hz] at hx2; cases hx2
   | some z =>
    rw [hz] at hx2
    injection hx2 with hx2
    subst hx2
    exact ZmQ hmk hv2
 ·rcases ιFz_inv h2 with ⟨_, h3⟩ | ⟨rfl, _⟩
  ·exact hS.new k b h1 h3
  ·exact hnew
 ·cases ho : lkO post k with
  | none => rw [ho] at h1; cases h1
  | some o => exact hS.alive k (by rw [(ZgL (x := some (.cells (Zs c) t)) ho).2]; rfl) h2
 ·exact hS.kind k (Zlm h1).2 h2
 ·cases hq : ιFz ι' post.length b0.1 c k with
  | none => exact absurd hq hk
  | some q =>
   rcases ιFz_inv hq with ⟨h1 | ⟨h1, _⟩, _⟩ | ⟨_, o, c', rfl, _⟩
   ·exact .inl h1
   ·exact .inr h1.1
   ·exact .inr (ZdP _ _ _).1
 ·obtain rfl : b = b0 := by rw [q1] at hb; injection hb with hb; exact hb.symm
  exact ⟨_, ιFz_new (by omega) (hno _ _) hself⟩
theorem Zr8 {α : Type} {E : Enc α} {L : List α} {j n m : Nat} {ι ι2 : Ren} {v' : Value} (hb : ∀ b, ι j = some b → ∃ q, ι2 (Z7 b.1 0 (code (ZU E L))) = some q) (hv : VR ι (.slice (some ⟨j, 0, none⟩) n m) v') : VR ι2 (.slice (some ⟨code (ZU E L), 0, some 0⟩) n m) v' := by
 cases hv with
 | atom h => cases h
 | slice h1 h2 h3 h4 =>
  obtain ⟨q, hq⟩ := hb _ h1
  have := VR.mslice (ι := ι2) (base := 0) (o := 0) (z := 0) hq h2 h3
  exact this
 | slice0 h => exact .slice0 h
theorem Zk3 {α : Type} {E : Enc α} {L : List α} {ι : Ren} {w w' : World} {e : Ending} {pre : List AObj} {post : List (Option AObj)} {t : TypeId} (hd : ∀ k, ι k ≠ none → k < pre.length ∨ Zbi k) (h : Fin P ι pre w (.slice (some ⟨post.length, 0, none⟩) L.length L.length) (post ++ [some (.cells (Zb E L) t)]) e w') (hpre : pre.length ≤ post.length) (hle : post.length < 1000000000) (hUA : Zhh post.length post) : Fin P ι pre w (ms E L) post e w' := by
 rw [Zgu] at h
 exact Zr7 hd h hpre hle hUA fun ι ι2 v' hk hb hv => Zr8 hb hv
end
end Ev
end Go.Proofs.YtifdgbbbojccdaaGreat
/- slices.Clone, in a store of one's own. -/
namespace Go.Proofs.YtifdgbbbojccdaaGreat
open Go.RowKit
namespace Ev
set_option linter.unusedVariables false
section
variable {P : Program}
theorem Zk4 {w : World} {b o : Nat} {C : Array Value} {t : TypeId} {fr : Nat × Nat} (hB : w.heap[b]? = some (.cells C t fr)) : w.cell? ⟨b, o, none⟩ = C[o]? := by simp [World.cell?, hB]
theorem VR.oneC {ι : Ren} {z : Cell} {y : Value} (h : VR ι (Zc3 z) y) : y.oneCell' = true := by
 cases z with
 | any => cases h with
  | atom h => exact (Bool.false_ne_true h).elim
  | glob h => exact h
 | m id o n c => cases h with
  | atom h => exact (Bool.false_ne_true h).elim
  | slice0 h => rfl
  | mslice h hn hc => rfl
 | _ => rw [h.eq_of_atom rfl]; rfl
theorem Zln {ι : Ren} {h : AH} {w w' : World} (e : Emb P ι h w) (hB : Below w.heap.size w w') : Step P ι h w ι h w' := by
 have hs : ∀ k b, ι k = some b → w'.heap[b.1]? = w.heap[b.1]? := fun k b hk => hB.block _ (e.lt k b hk)
 refine ⟨fun _ _ h => h, ⟨fun k c t hk => ?_, fun k O hk => ?_, e.inj, fun k b hk => Nat.lt_of_lt_of_le (e.lt k b hk) hB.size, e.marks (fun _ _ h => h) (fun b hb _ => hB.block b hb) (fun _ _ _ _ h => h) fun k d hk hd => .inr ⟨k, d, hk, hd, rfl⟩⟩, hB.os, hB.tape, hB.output, hB.size, fun b hb _ => hB.block b hb, fun k b h1 h2 => (by rw [h1] at h2; cases h2), fun k h1 _ => h1, fun k h1 _ => h1⟩
 ·obtain ⟨b, C, h1, h2, h3⟩ := e.obj k c t hk
  exact ⟨b, C, h1, (hs k b h1).trans h2, h3⟩
 ·obtain ⟨b, h1, h2⟩ := e.ro k O hk
  exact ⟨b, h1, by rw [hs k b h1]; exact h2⟩
theorem Zr9 {ι : Ren} {h : AH} {w : World} (e : Emb P ι h w) {n : Nat} (hnf : n < 1000000000) (hn : ι n = none) {g cap : Nat} {c : List Value} {cur : Array Value} {t : TypeId} (hg : ∀ k b, ι k = some b → b.1 ≠ g) (hgc : w.heap[g]? = some (.cells cur t (0, 0))) (hc : CR ι c cur) (hq : ∀ i, P.info? t = some i → cap * i.size ≤ cur.size) : Emb P (upd ι n (some (g, cap))) (upd h n (some (.cells c t))) w := by
 have hx : ∀ k b, ι k = some b → upd ι n (some (g, cap)) k = some b := fun k b hk => by
  rw [Zc]; · exact hk
  ·intro e; subst e; rw [hn] at hk; cases hk
 refine ⟨fun k c' t' hk => ?_, fun k O hk => ?_, fun k k' b b' h1 h2 h3 h4 h5 => ?_, fun k b hk => ?_, fun b base id q hq => ?_⟩
 ·by_cases hk0 : k = n
  ·subst hk0
   rw [Zj] at hk
   injection hk with hk
   injection hk with h1 h2
   subst h1 h2
   exact ⟨_, cur, Zj, hgc, hc.ext hx, hq⟩
  ·rw [Zc hk0] at hk
   obtain ⟨b, C', hb, hB, hC, hQ⟩ := e.obj k c' t' hk
   exact ⟨b, C', hx k b hb, hB, hC.ext hx, hQ⟩
 ·by_cases hk0 : k = n
  ·subst hk0; rw [Zj] at hk; injection hk with hk; cases hk
  ·rw [Zc hk0] at hk
   obtain ⟨b, hb, hB⟩ := e.ro k O hk
   exact ⟨b, hx k b hb, hB⟩
 ·by_cases hk0 : k = n
  ·by_cases hk1 : k' = n
   ·exact hk0.trans hk1.symm
   ·subst hk0
    rw [Zj] at h3; rw [Zc hk1] at h4
    injection h3 with h3; subst h3
    exact absurd h5.symm (hg _ _ h4)
  ·rw [Zc hk0] at h1 h3
   by_cases hk1 : k' = n
   ·subst hk1
    rw [Zj] at h4
    injection h4 with h4; subst h4
    exact absurd h5 (hg _ _ h3)
   ·rw [Zc hk1] at h2 h4
    exact e.inj k k' b b' h1 h2 h3 h4 h5
 ·by_cases hk0 : k = n
  ·subst hk0; rw [Zj] at hk; injection hk with hk; subst hk; exact (Array.getElem?_eq_some_iff.1 hgc).1
  ·rw [Zc hk0] at hk; exact e.lt k b hk
 ·have h0 := ZhY hnf _ _ _ _ hq
  obtain ⟨m1, m2, m3⟩ := e.mks b base id q h0
  refine ⟨m1, ⟨m2.1.ext hx rfl, fun o c hc => hx _ _ (m2.2 o c hc)⟩, fun k d hk hd => ?_⟩
  by_cases hk0 : k = n
  ·subst hk0
   rw [Zj] at hd; injection hd with hd; subst hd
   intro hb
   exact hg _ _ h0 (m1.trans hb.symm)
  ·rw [Zc hk0] at hk hd; exact m3 k d hk hd
theorem ZrA (pre : List AObj) (o : AObj) : lkO (pre.map some ++ [some o]) = upd (lk pre) pre.length (some o) := by
 funext k
 unfold lkO lk upd
 by_cases h : k = pre.length
 ·subst h; simp
 ·rw [if_neg h]
  by_cases h2 : k < pre.length
  ·rw [List.getElem?_append_left (by simpa using h2)]; simp [h2]
  ·rw [List.getElem?_eq_none (by simp; omega)]
   show none = pre[k]?
   rw [List.getElem?_eq_none (by omega)]
theorem ZqT (pre : List AObj) : lkO (pre.map some) = lk pre := by
 funext k
 unfold lkO lk
 by_cases h2 : k < pre.length
 ·simp [h2]
 ·rw [List.getElem?_eq_none (by simp; omega)]
  show none = pre[k]?
  rw [List.getElem?_eq_none (by omega)]
theorem ZgM {ι : Ren} {pre : List AObj} {w w' : World} (hd : ∀ k, ι k ≠ none → k < pre.length ∨ Zbi k) (he : Emb P ι (lk pre) w) (hB : Below w.heap.size w w') {v v' : Value} (hv : VR ι v v') : Fin P ι pre w v (pre.map some) (.returned v') w' := by
 refine ⟨v', ι, rfl, ?_, fun k hk => (hd k hk).imp (fun q => by simpa using q) (fun q => q.1), hv⟩
 rw [ZqT]
 exact Zln he hB
theorem ZrB {ι : Ren} {pre : List AObj} {w w' : World} (hpre : pre.length < 1000000000) (hd : ∀ k, ι k ≠ none → k < pre.length ∨ Zbi k) (he : Emb P ι (lk pre) w) (hB : Below w.heap.size w w') {g cap n : Nat} {c : List Value} {cur : Array Value} {t : TypeId} (hg : w.heap.size ≤ g) (hgc : w'.heap[g]? = some (.cells cur t (0, 0))) (hc : CR ι c cur) (hq : ∀ i, P.info? t = some i → cap * i.size ≤ cur.size) (hn : n ≤ cap) :
  Fin P ι pre w (.slice (some ⟨pre.length, 0, none⟩) n n) (pre.map some ++ [some (.cells c t)]) (.returned (.slice (some ⟨g, 0, none⟩) n cap)) w' := by
 have hj : ι pre.length = none := by
  cases hk : ι pre.length with
  | none => rfl
  | some b => exact absurd (hd pre.length (by rw [hk]; simp)) (by unfold Zbi; omega)
 have S := Zln he hB
 have E2 := Zr9 S.emb hpre hj (g := g) (cap := cap) (c := c) (cur := cur) (t := t) (fun k b hk hb => by have := he.lt k b hk; omega) hgc hc hq
 have hx : ∀ k b, ι k = some b → upd ι pre.length (some (g, cap)) k = some b := fun k b hk => by
  rw [Zc]; · exact hk
  ·intro e; subst e; rw [hj] at hk; cases hk
 refine ⟨_, upd ι pre.length (some (g, cap)), rfl, ?_, fun k hk => ?_, ?_⟩
 ·rw [ZrA]
  refine ⟨hx, E2, S.os, S.tape, S.output, S.size, S.frame, fun k b h1 h2 => ?_, fun k h1 h2 => ?_, fun k h1 h2 => ?_⟩
  ·by_cases hk0 : k = pre.length
   ·subst hk0; rw [Zj] at h2; injection h2 with h2; subst h2; exact .inl hg
   ·rw [Zc hk0, h1] at h2; cases h2
  ·by_cases hk0 : k = pre.length
   ·subst hk0; exact absurd hj h2
   ·rwa [Zc hk0] at h1
  ·by_cases hk0 : k = pre.length
   ·subst hk0; exact absurd hj h2
   ·rwa [Zc hk0] at h1
 ·by_cases hk0 : k = pre.length
  ·subst hk0; exact .inl (by simp)
  ·rw [Zc hk0] at hk; exact (hd k hk).imp (fun q => by simp; omega) (fun q => q.1)
 ·have := VR.slice (ι := upd ι pre.length (some (g, cap))) (k := pre.length) (b := (g, cap)) (o := 0) (n := n) (c := n) (c' := cap) Zj (Nat.le_refl _) hn (fun _ => .inr (Nat.le_refl _))
  exact this
variable {ρ : Shelf.Ren}
open Go.Shelf Go.Lib
set_option maxHeartbeats 2000000 in
set_option maxRecDepth 100000 in
theorem Zqm (L : SlLaysE0.n41 P ρ) {i0 : TypeInfo} {z : Value} {size bytes : Nat} (hi : P.info? (ρ.t 23) = some i0) (hz0 : i0.zero = some z) (hz1 : i0.size = size) (hz2 : i0.bytes = bytes) (hzs : z.cells.size = size) (hsz : 0 < size)
  (z23 : ∀ w, (Go.sizeOf (ρ.t 23)).run P w = .ok size w) (a : Addr) (n c : Nat) (news : List Value) (w : World) (hl : news.length = n * size) (hn : n ≤ maxLen) (hbig : n * bytes ≤ 140737488355328) (hc : ∀ j u, news[j]? = some u → w.cell? (a.add j) = some u) (h1 : ∀ u ∈ news, u.oneCell' = true) :
  Calls P (ρ.f 41) #[.slice (some a) n c] w fun e w' => ∃ v', e = .returned v' ∧ w'.ownsRow w.heap.size (ρ.t 23) size v' n news ∧ v' ≠ .slice none 0 0 ∧ Below w.heap.size w w' := by
 have g0 := L.mixed; have g1 := L.t4; have g2 := L.a4; have g3 := L.z4; have g4 := L.v4; have g5 := L.t22; have g6 := L.a22; have g7 := L.z22; have g8 := L.v22
 have g9 : ∀ (w : World) (a : Option Addr) (n c n' c' : Nat), (binOp .eql (ρ.t 22) (.slice a n c) (.slice none n' c')).run P w = .ok (.bool a.isNone) w := fun w a n c n' c' => Lib.run_eql_slice_nil w _ _ a n c n' c' L.t22
 have g10 : ∀ w, Sem.run P (underlying (ρ.t 22)) w = .ok (TypeDesc.slice (ρ.t 23)) w := run_underlying g5
 have K : Aside (∀ j u, news[j]? = some u → w.cell? (a.add j) = some u) := hc
 clear hc
 obtain ⟨_, _, FG⟩ := L.f41
 go_enter FG, SlBodyN.n41_ntmps ρ
 go_wp2_with (at_builtin; refine wpList_append_own _ rfl _ _ (ρ.t 22) rfl w.heap.size (ρ.t 23) i0 z size bytes g5 hi hz0 hz1 hz2 hzs hsz _ _ _ rfl (World.ownsRow_made w #[] 0 (Nat.le_refl _) (Nat.zero_le _) (by simp)) a n c news rfl hl ?k1 h1 ?k2 ?k3 ?k4 ?_)
 case k1 => exact fun j u hj => Lib.cell?_alloc_some _ (K.out j u hj)
 case k2 => rw [Nat.zero_add]; exact hn
 case k3 => rw [Nat.zero_add]; exact hbig
 case k4 => simp
 intro v' w1 o1 o2 o3
 go_wp2
 go_ret
 exact ⟨v', rfl, by simpa using o1, o3, ((Below.refl _ w).alloc (Nat.le_refl _) _).grown o2 (by simp) (by intro k hk; simp [Value.ownBlock] at hk; omega)⟩
end
end Ev
end Go.Proofs.YtifdgbbbojccdaaGreat
/- slices.Clone: what it does of a plain row, and of one of one's own. -/
namespace Go.Proofs.YtifdgbbbojccdaaGreat
open Go.RowKit Go.Lib
namespace Ev
set_option linter.unusedVariables false
section
variable {P : Program} {ρ : Shelf.Ren} {α : Type} {E : Enc α} {L : List α}
theorem Zmo {ι : Ren} {id n m : Nat} {x' : Value} (h : VR ι (.slice (some ⟨id, 0, some 0⟩) n m) x') : (∃ b base q c', ι (Z7 b base id) = some q ∧ n ≤ m ∧ m ≤ c' ∧ x' = .slice (some ⟨b, base, none⟩) n c') ∨ (n = 0 ∧ m = 0 ∧ ∃ a', x' = .slice a' 0 0) := by
 cases h with
 | atom h => exact (Bool.false_ne_true h).elim
 | mslice h1 h2 h3 => exact .inl ⟨_, _, _, _, h1, h2, h3, rfl⟩
 | slice0 h => exact .inr ⟨rfl, rfl, _, rfl⟩
theorem Zhi {ι : Ren} {k n m : Nat} {x' : Value} (h : VR ι (.slice (some ⟨k, 0, none⟩) n m) x') : (∃ b c', ι k = some b ∧ n ≤ m ∧ m ≤ c' ∧ x' = .slice (some ⟨b.1, 0, none⟩) n c') ∨ (n = 0 ∧ m = 0 ∧ ∃ a', x' = .slice a' 0 0) := by
 cases h with
 | atom h => exact (Bool.false_ne_true h).elim
 | slice h1 h2 h3 h4 => exact .inl ⟨_, _, h1, h2, h3, rfl⟩
 | slice0 h => exact .inr ⟨rfl, rfl, _, rfl⟩
theorem ZjK {ι : Ren} {a : Value} {args' : Array Value} (h : VRs ι #[a] args') : ∃ x', args' = #[x'] ∧ VR ι a x' := by
 obtain ⟨l⟩ := args'
 match l, h with
 | [x], h => exact ⟨x, rfl, h.2 0 a x rfl rfl⟩
 | [], h => exact absurd h.1 (by simp)
 | _ :: _ :: _, h => exact absurd h.1 (by simp)
theorem Zn4 {ι : Ren} {a b : Value} {args' : Array Value} (h : VRs ι #[a, b] args') : ∃ x' y', args' = #[x', y'] ∧ VR ι a x' ∧ VR ι b y' := by
 obtain ⟨l⟩ := args'
 match l, h with
 | [x, y], h => exact ⟨x, y, rfl, h.2 0 a x rfl rfl, h.2 1 b y rfl rfl⟩
 | [], h => exact absurd h.1 (by simp)
 | [_], h => exact absurd h.1 (by simp)
 | _ :: _ :: _ :: _, h => exact absurd h.1 (by simp)
structure ZeS (P : Program) (ρ : Shelf.Ren) (sz bytes : Nat) : Prop where
 L : SlLaysE0.n41 P ρ
 hi : ∃ i0 z, P.info? (ρ.t 23) = some i0 ∧ i0.zero = some z ∧ i0.size = sz ∧ i0.bytes = bytes ∧ z.cells.size = sz
 pos : 0 < sz
 z23 : ∀ w, (Go.sizeOf (ρ.t 23)).run P w = .ok sz w
theorem Zn5 {ι : Ren} {j : Nat} {x y : Value} (hx : (Zb E L)[j]? = some x) (h : VR ι x y) : y.oneCell' = true := by
 rw [Zgu] at hx
 unfold Zs at hx
 rw [List.getElem?_map] at hx
 cases hz : (ZU E L)[j]? with
 | none => rw [hz] at hx; cases hx
 | some z => rw [hz] at hx; injection hx with hx; subst hx; exact VR.oneC h
theorem Zhj {bytes : Nat} (C : ZeS P ρ E.w bytes) (hn : L.length ≤ maxLen) (hbig : L.length * bytes ≤ 140737488355328) {ι : Ren} {pre : List AObj} {w : World} (hpre : pre.length < 1000000000) (hd : ∀ k, ι k ≠ none → k < pre.length ∨ Zbi k) (he : Emb P ι (lk pre) w) {a : Addr} {c : Nat}
  (hc : ∀ j, j < L.length * E.w → ∃ y, w.cell? (a.add j) = some y ∧ ∀ x, (Zb E L)[j]? = some x → VR ι x y) :
  Calls P (ρ.f 41) #[.slice (some a) L.length c] w (Fin P ι pre w (.slice (some ⟨pre.length, 0, none⟩) L.length L.length) (pre.map some ++ [some (.cells (Zb E L) (ρ.t 23))])) := by
 obtain ⟨i0, z, k1, k2, k3, k4, k5⟩ := C.hi
 obtain ⟨news, hnl, hng⟩ : ∃ news : List Value, news.length = L.length * E.w ∧ ∀ j u, news[j]? = some u → j < L.length * E.w ∧ w.cell? (a.add j) = some u := by
  refine ⟨(List.range (L.length * E.w)).map fun j => (w.cell? (a.add j)).getD undef, by simp, fun j u hj => ?_⟩
  have hl := (List.getElem?_eq_some_iff.1 hj).1
  simp only [List.length_map, List.length_range] at hl
  obtain ⟨y, hy, _⟩ := hc j hl
  simp only [List.getElem?_map, List.getElem?_range hl, Option.map_some, hy, Option.getD_some, Option.some.injEq] at hj
  exact ⟨hl, by rw [hy, hj]⟩
 have hrow : ∀ j, j < L.length * E.w → ∃ x, (Zb E L)[j]? = some x := fun j hj => by
  have : j < (Zb E L).length := by rw [Zb0]; exact hj
  exact ⟨_, List.getElem?_eq_getElem this⟩
 refine (Zqm C.L k1 k2 k3 k4 k5 C.pos C.z23 a L.length c news w hnl hn hbig (fun j u hj => (hng j u hj).2) (fun u hu => ?_)).mono ?_
 ·obtain ⟨j, hj⟩ := List.mem_iff_getElem?.1 hu
  obtain ⟨h1, h2⟩ := hng j u hj
  obtain ⟨y, hy, hv⟩ := hc j h1
  obtain ⟨x, hx⟩ := hrow j h1
  rw [h2] at hy; injection hy with hy; subst hy
  exact Zn5 hx (hv x hx)
 ·rintro e w' ⟨v', rfl, ⟨_, ⟨h1, _⟩ | ⟨g, cap, cur, rfl, h2, h3, h4, h5, h6, h7⟩⟩, hnil, hB⟩
  ·exact absurd h1 hnil
  ·refine ZrB hpre hd he hB h2 h3 ⟨?_, fun i x y hx hy => ?_⟩ (fun i hi => ?_) h4
   ·rw [Zb0, h6]; exact Nat.mul_le_mul_right _ h4
   ·have hil := (List.getElem?_eq_some_iff.1 hx).1
    rw [Zb0] at hil
    obtain ⟨y2, hy2, hv⟩ := hc i hil
    have hu : news[i]? = some y := by
     rw [← h7, List.getElem?_take_of_lt hil, Array.getElem?_toList]; exact hy
    have := (hng i y hu).2
    rw [hy2] at this; injection this with this; subst this
    exact hv x hx
   ·rw [k1] at hi; injection hi with hi; subst hi
    rw [k3, h6]; exact Nat.le_refl _
theorem ZrC {bytes : Nat} (C : ZeS P ρ E.w bytes) (hn : L.length ≤ maxLen) (hbig : L.length * bytes ≤ 140737488355328) : LSpec P (ρ.f 41) #[ms E L] [] (ms E L) [] := by
 intro ι w args' hd ha he
 obtain ⟨x', rfl, hv⟩ := ZjK ha
 rcases Zmo hv with ⟨b, base, q, c', h1, _, h3, rfl⟩ | ⟨h0, _, a', rfl⟩
 ·obtain ⟨_, ⟨⟨c, D, t, fr, m1, m2, m3, m4⟩, _⟩, _⟩ := he.mks b base _ q h1
  rw [Zci] at m1; injection m1 with m1; subst m1
  have hlen : (ZU E L).length = L.length * E.w := by
   have := Zb0 (E := E) L
   rw [Zgu] at this
   simpa [Zs] using this
  refine (Zhj C hn hbig (pre := []) (by decide) hd he (a := ⟨b, base, none⟩) (c := c') fun j hj => ?_).mono fun e w' hf => Zk3 (post := []) hd hf (Nat.le_refl _) (by decide) trivial
  have hsz := m3 (by omega)
  rw [hlen] at hsz
  have hD : base + j < D.size := by omega
  refine ⟨D[base + j], ?_, fun x hx => m4 j x _ (by rw [← Zgu]; exact hx) (Array.getElem?_eq_getElem hD)⟩
  rw [Addr.add_lit, Zk4 m2, Array.getElem?_eq_getElem hD]
 ·have hL : L = [] := List.length_eq_zero_iff.1 h0
  subst hL
  cases a' with
  | none => exact (AnyE.slices_Clone_nil C.L 0 0 w).mono fun e w' ⟨h1, h2⟩ => by subst h1 h2; exact ZgM (pre := []) hd he (Below.refl _ _) (.slice0 fun _ => rfl)
  | some a => exact (Zhj C hn hbig (pre := []) (by decide) hd he (a := a) (c := 0) fun j hj => by simp at hj).mono fun e w' hf => Zk3 (post := []) hd hf (Nat.le_refl _) (by decide) trivial
theorem Zqn {bytes : Nat} (C : ZeS P ρ E.w bytes) : LSpec P (ρ.f 41) #[.slice none 0 0] [] (ms E ([] : List α)) [] := by
 intro ι w args' hd ha he
 obtain ⟨x', rfl, hv⟩ := ZjK ha
 rw [hv.eq_of_atom rfl]
 exact (AnyE.slices_Clone_nil C.L 0 0 w).mono fun e w' ⟨h1, h2⟩ => by subst h1 h2; exact ZgM (pre := []) hd he (Below.refl _ _) (.slice0 fun _ => rfl)
theorem Zp3 {bytes : Nat} {t : TypeId} (C : ZeS P ρ E.w bytes) (hL : L = []) : LSpec P (ρ.f 41) #[.slice (some ⟨0, 0, none⟩) L.length L.length] [.cells (Zb E L) t] (ms E ([] : List α)) [some (.cells (Zb E L) t)] := by
 intro ι w args' hd ha he
 subst hL
 obtain ⟨x', rfl, hv⟩ := ZjK ha
 obtain ⟨a', c', rfl⟩ : ∃ a' c', x' = .slice a' 0 c' := by
  rcases Zhi hv with ⟨b, c', _, _, _, h⟩ | ⟨_, _, a', h⟩
  ·exact ⟨_, _, h⟩
  ·exact ⟨_, _, h⟩
 cases a' with
 | none => exact (AnyE.slices_Clone_nil C.L 0 c' w).mono fun e w' ⟨h1, h2⟩ => by subst h1 h2; exact ZgM hd he (Below.refl _ _) (.slice0 fun _ => rfl)
 | some a => exact (Zhj (E := E) (L := []) C (Nat.zero_le _) (by simp) (pre := [.cells (Zb E []) t]) (show 1 < 1000000000 from by decide) hd he (a := a) (c := c') fun j hj => by simp at hj).mono fun e w' hf => Zk3 (post := [some (.cells (Zb E []) t)]) hd hf (Nat.le_refl _) (show 1 < 1000000000 from by decide) ⟨Zy _ _ _, trivial⟩
theorem Zp4 {bytes : Nat} {t : TypeId} (C : ZeS P ρ E.w bytes) (hL : L ≠ []) (hn : L.length ≤ maxLen) (hbig : L.length * bytes ≤ 140737488355328) : LSpec P (ρ.f 41) #[.slice (some ⟨0, 0, none⟩) L.length L.length] [.cells (Zb E L) t] (.slice (some ⟨1, 0, none⟩) L.length L.length) [some (.cells (Zb E L) t), some (.cells (Zb E L) (ρ.t 23))] := by
 intro ι w args' hd ha he
 obtain ⟨x', rfl, hv⟩ := ZjK ha
 rcases Zhi hv with ⟨b, c', h1, _, h3, rfl⟩ | ⟨h0, _, _⟩
 ·obtain ⟨b', D, r1, r2, r3, r4⟩ := he.obj 0 (Zb E L) t rfl
  rw [h1] at r1; injection r1 with r1; subst r1
  refine Zhj C hn hbig (pre := [.cells (Zb E L) t]) (show 1 < 1000000000 from by decide) hd he (a := ⟨b.1, 0, none⟩) (c := c') fun j hj => ?_
  have hD : 0 + j < D.size := by have := r3.1; rw [Zb0] at this; omega
  refine ⟨D[0 + j], ?_, fun x hx => r3.2 j x _ hx (by rw [Array.getElem?_eq_getElem (by omega)]; simp)⟩
  rw [Addr.add_lit, Zk4 r2, Array.getElem?_eq_getElem hD]
 ·exact absurd (List.length_eq_zero_iff.1 h0) hL
end
end Ev
end Go.Proofs.YtifdgbbbojccdaaGreat
/- slices.SortFunc, by a number, of a row of one's own. -/
namespace Go.Proofs.YtifdgbbbojccdaaGreat
open Go.RowKit Go.Lib
namespace Ev
set_option linter.unusedVariables false
section
variable {P : Program} {ρ : Shelf.Ren} {α : Type} {E : Enc α}
structure Zn6 (P : Program) (ρ : Shelf.Ren) (sz q : Nat) (g : FuncId) : Prop where
 L : SlLaysF0.n6 P ρ
 aE : ∀ w, (isAgg (ρ.t 24)).run P w = .ok true w
 zE : ∀ w, (Go.sizeOf (ρ.t 24)).run P w = .ok sz w
 pos : 0 < sz
 eg : ∀ args w, (callFunc g args).run P w = .ok (.enter g args) w
 hcl : ∀ (x y : List Value) (m n : Int) (W : World), x.length = sz → y.length = sz → x[q]? = some (.int .i64 m) → y[q]? = some (.int .i64 n) → (∀ v ∈ x, v.oneCell' = true) → (∀ v ∈ y, v.oneCell' = true) → Calls P g #[.agg x.toArray, .agg y.toArray] W fun e w' => e = .returned (.int .i64 (Lib.compareInt m n)) ∧ ∃ r os, w' = Go.Sort.grow (W.drewN r) os
def WE (ι : Ren) (E : Enc α) (key : α → Int) (q : Nat) : Type := {p : α × List Value // p.2.length = E.w ∧ (∀ v ∈ p.2, v.oneCell' = true) ∧ p.2[q]? = some (.int .i64 (key p.1)) ∧ ∀ (i : Nat) (x y : Value), (E.enc p.1)[i]? = some x → p.2[i]? = some y → VR ι x y}
def WE.cs {ι : Ren} {key : α → Int} {q : Nat} (p : WE ι E key q) : List Value := p.1.2
def WE.el {ι : Ren} {key : α → Int} {q : Nat} (p : WE ι E key q) : α := p.1.1
theorem Zn7 {L : List α} {j i : Nat} (hj : j < L.length) (hi : i < E.w) : (Zb E L)[j * E.w + i]? = (E.enc (L.getD j E.dflt))[i]? := by
 have h := ZlI (E := E) (L := L) (o := j * E.w) (i := j) (q := 0) hj (by omega) (Nat.zero_le _)
 rw [← List.getElem?_drop, h, List.drop_zero, List.getElem?_append_left (by rw [E.len]; exact hi)]
theorem Zrp {ι : Ren} {key : α → Int} {q : Nat} (hkey : ∀ a, (E.enc a)[q]? = some (.int .i64 (key a))) {L : List α} {D : Array Value} (hD : CR ι (Zb E L) D) {j : Nat} (hj : j < L.length) : ∃ p : WE ι E key q, p.el = L.getD j E.dflt ∧ ∀ i, i < E.w → p.cs[i]? = D[j * E.w + i]? := by
 have hsz := hD.1
 rw [Zb0] at hsz
 have hjw : j * E.w + E.w ≤ L.length * E.w := by rw [← Nat.succ_mul]; exact Nat.mul_le_mul_right _ hj
 have hl : ((D.toList.drop (j * E.w)).take E.w).length = E.w := by rw [List.length_take, List.length_drop, Array.length_toList]; omega
 have hg : ∀ i, i < E.w → ((D.toList.drop (j * E.w)).take E.w)[i]? = D[j * E.w + i]? := fun i hi => by
  rw [List.getElem?_take_of_lt hi, List.getElem?_drop, Array.getElem?_toList]
 have hv : ∀ i x y, (E.enc (L.getD j E.dflt))[i]? = some x → ((D.toList.drop (j * E.w)).take E.w)[i]? = some y → VR ι x y := fun i x y hx hy => by
  have hi : i < E.w := by have := (List.getElem?_eq_some_iff.1 hx).1; rwa [E.len] at this
  rw [hg i hi] at hy
  exact hD.2 (j * E.w + i) x y ((Zn7 hj hi).trans hx) hy
 have hq : q < E.w := by have := (List.getElem?_eq_some_iff.1 (hkey (L.getD j E.dflt))).1; rwa [E.len] at this
 refine ⟨⟨(L.getD j E.dflt, (D.toList.drop (j * E.w)).take E.w), hl, fun v hm => ?_, ?_, hv⟩, rfl, hg⟩
 ·obtain ⟨i, hi⟩ := List.mem_iff_getElem?.1 hm
  have hi2 : i < E.w := by have := (List.getElem?_eq_some_iff.1 hi).1; rwa [hl] at this
  have hx : (E.enc (L.getD j E.dflt))[i]? = some ((E.enc (L.getD j E.dflt))[i]'(by rw [E.len]; exact hi2)) := List.getElem?_eq_getElem _
  exact Zn5 (E := E) (L := L) ((Zn7 hj hi2).trans hx) (hv i _ v hx hi)
 ·have hlt : q < ((D.toList.drop (j * E.w)).take E.w).length := by rw [hl]; exact hq
  have h1 := List.getElem?_eq_getElem hlt
  show ((D.toList.drop (j * E.w)).take E.w)[q]? = some (.int .i64 (key (L.getD j E.dflt)))
  rw [h1]
  exact congrArg some ((hv q _ _ (hkey _) h1).eq_of_atom rfl)
theorem Zlo {ι : Ren} {key : α → Int} {q : Nat} (x y : WE ι E key q) : ltOf (fun x y : WE ι E key q => Lib.compareInt (key x.el) (key y.el)) x y = decide (key x.el < key y.el) := by
 unfold ltOf Lib.compareInt
 by_cases h1 : key x.el < key y.el
 ·simp [h1]
 ·by_cases h2 : key y.el < key x.el <;> simp [h1, h2]
theorem ZrD {ι : Ren} {key : α → Int} {q : Nat} : Go.Sort.SWO (ltOf (fun x y : WE ι E key q => Lib.compareInt (key x.el) (key y.el))) where
 irrefl x := by rw [Zlo]; simp
 trans x y z h1 h2 := by rw [Zlo] at *; simp at *; omega
 ntrans x y z h1 h2 := by rw [Zlo] at *; simp at *; omega
theorem Zlp {key : α → Int} {A R : List α} (hp : A.Perm R) (ha : A.Pairwise fun a b => key a ≤ key b) (hr : R.Pairwise fun a b => key a < key b) : A = R := by
 have inj : ∀ a b, a ∈ R → b ∈ R → key a = key b → a = b := fun a b h1 h2 hk => by
  obtain ⟨i, hi, rfl⟩ := List.mem_iff_getElem.1 h1
  obtain ⟨j, hj, rfl⟩ := List.mem_iff_getElem.1 h2
  have hw := List.pairwise_iff_getElem.1 hr
  rcases Nat.lt_trichotomy i j with h | h | h
  ·have := hw i j hi hj h; omega
  ·subst h; rfl
  ·have := hw j i hj hi h; omega
 exact List.Perm.eq_of_pairwise (le := fun a b => key a ≤ key b) (fun a b h1 h2 h3 h4 => inj a b (hp.subset h1) h2 (by omega)) ha (hr.imp fun h => by omega) hp
theorem ZqU {w : World} {blk : Nat} {C : Array Value} {t : TypeId} {F : Array Value} (hB : w.heap[blk]? = some (.cells C t (0, 0))) (n : Nat) (os : Array Obj) :
  (Go.Sort.grow (Go.Sort.putRow id (Go.Sort.ahead w n) blk 0 F) os).heap[blk]? = some (.cells (Go.Sort.putCells id 0 F C) t (0, 0)) ∧ ∀ b, b < w.heap.size → b ≠ blk → (Go.Sort.grow (Go.Sort.putRow id (Go.Sort.ahead w n) blk 0 F) os).heap[b]? = w.heap[b]? := by
 have hlt := (Array.getElem?_eq_some_iff.1 hB).1
 have hh : (Go.Sort.grow (Go.Sort.putRow id (Go.Sort.ahead w n) blk 0 F) os).heap = w.heap.modify blk (Go.Sort.onCells (Go.Sort.putCells id 0 F)) ++ os := rfl
 constructor
 ·rw [hh, Array.getElem?_append_left (by simpa using hlt), Array.getElem?_modify, if_pos rfl, hB]; rfl
 ·intro b hb hne
  rw [hh, Array.getElem?_append_left (by simpa using hb), Array.getElem?_modify, if_neg (fun e => hne e.symm)]
theorem ZqV {sz q : Nat} {g : FuncId} (S : Zn6 P ρ sz q g) (hw : E.w = sz) {key : α → Int} (hkey : ∀ a, (E.enc a)[q]? = some (.int .i64 (key a))) {L R : List α} {t : TypeId} (hp : R.Perm L) (hr : R.Pairwise fun a b => key a < key b) (hn : L.length ≤ 100000) :
  LSpec P (ρ.f 6) #[.slice (some ⟨0, 0, none⟩) L.length L.length, .func (.func g) #[] #[]] [.cells (Zb E L) t] (.tuple #[]) [some (.cells (Zb E R) t)] := by
 subst hw
 intro ι w args' hd ha he
 obtain ⟨x', y', rfl, hv, hf⟩ := Zn4 ha
 rw [hf.eq_of_atom rfl]
 have htt : VR ι (.tuple #[]) (.tuple #[]) := .tuple rfl fun i x y hx => by simp at hx
 by_cases h0 : L.length = 0
 ·have hL : L = [] := List.length_eq_zero_iff.1 h0
  subst hL
  obtain rfl : R = [] := hp.eq_nil
  obtain ⟨a', c', rfl⟩ : ∃ a' c', x' = .slice a' 0 c' := by
   rcases Zhi hv with ⟨b, c', _, _, _, h⟩ | ⟨_, _, a', h⟩
   ·exact ⟨_, _, h⟩
   ·exact ⟨_, _, h⟩
  exact (AnyF.slices_SortFunc_none S.L a' c' _ w).mono fun e w' ⟨h1, h2⟩ => by subst h1 h2; exact ZgM hd he (Below.refl _ _) htt
 obtain ⟨b, c', h1, h3, rfl⟩ : ∃ b c', ι 0 = some b ∧ L.length ≤ c' ∧ x' = .slice (some ⟨b.1, 0, none⟩) L.length c' := by
  rcases Zhi hv with ⟨b, c', h1, _, h3, h4⟩ | ⟨h0', _, _⟩
  ·exact ⟨b, c', h1, h3, h4⟩
  ·exact absurd h0' h0
 obtain ⟨b', D, r1, r2, r3, r4⟩ := he.obj 0 (Zb E L) t rfl
 rw [h1] at r1; injection r1 with r1; subst r1
 have hlt := (Array.getElem?_eq_some_iff.1 r2).1
 have hDs : L.length * E.w ≤ D.size := by have := r3.1; rwa [Zb0] at this
 -- the elements
 obtain ⟨d, hds, hdg⟩ : ∃ d : Array (WE ι E key q), d.size = L.length ∧ ∀ j (hj : j < d.size), d[j].el = L.getD j E.dflt ∧ ∀ i, i < E.w → d[j].cs[i]? = D[j * E.w + i]? := by
  refine ⟨Array.ofFn fun j : _root_.Fin L.length => Classical.choose (Zrp (key := key) (q := q) hkey r3 j.2), by simp, fun j hj => ?_⟩
  have hj2 : j < L.length := by simpa using hj
  simp only [Array.getElem_ofFn]
  exact Classical.choose_spec (Zrp (key := key) (q := q) hkey r3 hj2)
 have h0d : 0 < d.size := by omega
 haveI : Inhabited (WE ι E key q) := ⟨d[0]⟩
 have hflat : ∀ (d2 : Array (WE ι E key q)), d2.size = L.length → ∀ j i, j < L.length → i < E.w → (Go.Sort.flatK WE.cs E.w d2)[j * E.w + i]! = (d2[j]!).cs[i]! := fun d2 h2 j i hj hi => by
  have hb : j * E.w + i < d2.size * E.w := by
   rw [h2]
   have : j * E.w + E.w ≤ L.length * E.w := by rw [← Nat.succ_mul]; exact Nat.mul_le_mul_right _ hj
   omega
  rw [Go.Sort.get_flatK _ _ _ _ hb]
  have e1 : (j * E.w + i) / E.w = j := by rw [Nat.mul_comm, Nat.mul_add_div S.pos, Nat.div_eq_of_lt hi, Nat.add_zero]
  have e2 : (j * E.w + i) % E.w = i := by rw [Nat.mul_comm, Nat.mul_add_mod, Nat.mod_eq_of_lt hi]
  rw [e1, e2]
 have hsplit : ∀ m, m < L.length * E.w → ∃ j i, j < L.length ∧ i < E.w ∧ m = j * E.w + i := fun m hm => by
  refine ⟨m / E.w, m % E.w, (Nat.div_lt_iff_lt_mul S.pos).2 hm, Nat.mod_lt _ S.pos, ?_⟩
  rw [Nat.mul_comm]; exact (Nat.div_add_mod m E.w).symm
 have hcsl : ∀ p : WE ι E key q, p.cs.length = E.w := fun p => p.2.1
 have hH : Go.Sort.HoldsK WE.cs E.w w b.1 0 d := fun m hm => by
  rw [Go.Sort.size_flatK, hds] at hm
  obtain ⟨j, i, hj, hi, rfl⟩ := hsplit m hm
  refine ⟨?_, by simp [World.frozen?, r2]⟩
  rw [Nat.zero_add, Zk4 r2, hflat d hds j i hj hi, getElem!_pos d j (by omega)]
  have := (hdg j (by omega)).2 i hi
  rw [← this]
  rw [List.getElem?_eq_getElem (by rw [hcsl]; exact hi)]
  simp [getElem!_pos, hcsl, hi]
 have hc := AnyQ.slices_SortFunc (α := WE ι E key q) S.L E.w S.aE S.zE WE.cs hcsl (fun x => x.2.2.1) (fun x y => Lib.compareInt (key x.el) (key y.el)) ZrD g #[] b.1 0 c' d w S.eg (fun m os dk hs x y => S.hcl x.cs y.cs _ _ _ (hcsl x) (hcsl y) x.2.2.2.1 y.2.2.2.1 x.2.2.1 y.2.2.1) hH hlt (by omega)
 rw [hds] at hc
 refine hc.mono ?_
 rintro e w' ⟨rfl, d', n, os, ⟨ps, _, pp⟩, hso, rfl⟩
 have hds' : d'.size = L.length := ps.trans hds
 have hmapL : d.toList.map WE.el = L := by
  refine List.ext_getElem (by simp [hds]) fun j h1 h2 => ?_
  have hj : j < d.size := by simpa using h1
  rw [List.getElem_map, Array.getElem_toList, (hdg j hj).1, List.getD_eq_getElem?_getD, List.getElem?_eq_getElem h2, Option.getD_some]
 have pl : (d'.toList.map WE.el).Perm L := by
  rw [← hmapL]
  have e1 : d'.extract 0 L.length = d' := by rw [← hds']; simp
  have e2 : d.extract 0 L.length = d := by rw [← hds]; simp
  rw [e1, e2] at pp
  exact pp.map _
 have hsorted : (d'.toList.map WE.el).Pairwise fun a b => key a ≤ key b := by
  rw [List.pairwise_map, List.pairwise_iff_getElem]
  intro i j hi hj hij
  have hi2 : i < d'.size := by simpa using hi
  have hj2 : j < d'.size := by simpa using hj
  have := hso i j (Nat.zero_le _) hij (by omega)
  rw [Zlo, getElem!_pos d' i hi2, getElem!_pos d' j hj2] at this
  simp only [decide_eq_false_iff_not] at this
  simp only [Array.getElem_toList]
  omega
 have hR : d'.toList.map WE.el = R := Zlp (key := key) (pl.trans hp.symm) hsorted hr
 have hRl : R.length = L.length := hp.length_eq
 have hRe : ∀ j (hj : j < d'.size), d'[j].el = R.getD j E.dflt := fun j hj => by
  rw [← hR]
  simp [List.getD_eq_getElem?_getD, hj]
 obtain ⟨g1, g2⟩ := ZqU (F := Go.Sort.flatK WE.cs E.w d') r2 n os
 have hlk : ∀ k o, lkO [some (.cells (Zb E R) t)] k = some o → k = 0 ∧ o = .cells (Zb E R) t := fun k o hk => by
  cases k with
  | zero => exact ⟨rfl, (Option.some.inj hk).symm⟩
  | succ k => simp [lkO] at hk
 have hisC : ∀ k, isC (lkO [some (.cells (Zb E R) t)] k) = true → k = 0 := fun k hk => by
  cases ho : lkO [some (.cells (Zb E R) t)] k with
  | none => rw [ho] at hk; cases hk
  | some o => exact (hlk k o ho).1
 refine ⟨.tuple #[], ι, rfl, ⟨fun _ _ h => h, ⟨fun k c2 t2 hk => ?_, fun k O hk => ?_, fun k k' b1 b2 q1 q2 q3 q4 q5 => ?_, fun k b2 hk => ?_, he.marks (fun _ _ h => h) (fun b2 hb hno => g2 b2 hb fun e => hno 0 b rfl h1 e.symm) (fun _ _ _ _ h => h) fun k d2 hk hd2 => .inr ⟨k, d2, by rw [hisC k hk]; rfl, hd2, rfl⟩⟩, rfl, rfl, rfl, ?_, fun b2 hb hno => g2 b2 hb fun e => hno 0 b rfl h1 e.symm, fun k b1 q1 q2 => (by rw [q1] at q2; cases q2), fun k q1 _ => ?_, fun k q1 _ => ?_⟩, fun k hk => (hd k hk).imp id (fun q => q.1), htt⟩
 ·obtain ⟨rfl, e1⟩ := hlk k _ hk
  injection e1 with e1 e2
  subst e1 e2
  refine ⟨b, _, h1, g1, ⟨?_, fun m x y hx hy => ?_⟩, fun i hi => ?_⟩
  ·rw [Zb0, hRl]; simpa [Go.Sort.putCells] using hDs
  ·have hm : m < L.length * E.w := by
    have := (List.getElem?_eq_some_iff.1 hx).1
    rwa [Zb0, hRl] at this
   obtain ⟨j, i, hj, hi, rfl⟩ := hsplit m hm
   have hj2 : j < d'.size := by omega
   rw [Zn7 (by omega) hi] at hx
   have hmD : j * E.w + i < D.size := by omega
   have hfs : (Go.Sort.flatK WE.cs E.w d').size = L.length * E.w := by rw [Go.Sort.size_flatK, hds']
   have hy2 : y = (d'[j]).cs[i]'(by rw [hcsl]; exact hi) := by
    unfold Go.Sort.putCells at hy
    rw [Array.getElem?_mapIdx, Array.getElem?_eq_getElem hmD, Option.map_some, if_pos ⟨Nat.zero_le _, by rw [hfs]; omega⟩, Nat.sub_zero, hflat d' hds' j i hj hi, getElem!_pos d' j hj2] at hy
    injection hy with hy
    rw [← hy]
    simp [getElem!_pos, hcsl, hi]
   rw [hy2]
   refine (d'[j]).2.2.2.2 i x _ ?_ (List.getElem?_eq_getElem _)
   show (E.enc (d'[j]).el)[i]? = some x
   rw [hRe j hj2]; exact hx
  ·have := r4 i hi
   simpa [Go.Sort.putCells] using this
 ·obtain ⟨_, e1⟩ := hlk k _ hk
  cases e1
 ·have := hisC k q1
  cases ho : lkO [some (.cells (Zb E R) t)] k' with
  | none => rw [ho] at q2; cases q2
  | some o => rw [this, (hlk k' o ho).1]
 ·refine Nat.lt_of_lt_of_le (he.lt k b2 hk) ?_
  show w.heap.size ≤ (w.heap.modify _ _ ++ os).size
  simp
 ·show w.heap.size ≤ (w.heap.modify _ _ ++ os).size
  simp
 ·cases ho : lkO [some (.cells (Zb E R) t)] k with
  | none => rw [ho] at q1; cases q1
  | some o => rw [(hlk k o ho).1]; rfl
 ·rw [hisC k q1]; rfl
theorem Zqo {sz q : Nat} {g : FuncId} (S : Zn6 P ρ sz q g) {L : List α} (hL : L = []) {fv : Value} (hfv : atom fv = true) : LSpec P (ρ.f 6) #[ms E L, fv] [] (.tuple #[]) [] := by
 subst hL
 intro ι w args' hd ha he
 obtain ⟨x', y', rfl, hv, hf⟩ := Zn4 ha
 obtain ⟨a', c', rfl⟩ : ∃ a' c', x' = .slice a' 0 c' := by
  rcases Zmo hv with ⟨b, base, q, c', _, _, _, h⟩ | ⟨_, _, a', h⟩
  ·exact ⟨_, _, h⟩
  ·exact ⟨_, _, h⟩
 exact (AnyF.slices_SortFunc_none S.L a' c' _ w).mono fun e w' ⟨h1, h2⟩ => by subst h1 h2; exact ZgM (pre := []) hd he (Below.refl _ _) (.tuple rfl fun i x y hx => by simp at hx)
end
end Ev
end Go.Proofs.YtifdgbbbojccdaaGreat
/- A row by a number. -/
namespace Go.Proofs.YtifdgbbbojccdaaGreat
open Go.RowKit
namespace Ev
theorem Zjm {α : Type} (key : α → Int) (x : α) : ∀ l : List α, (Zk2 key x l).Perm (x :: l)
 | [] => .refl _
 | y :: l => by
  unfold Zk2
  split
  ·exact .refl _
  ·exact ((Zjm key x l).cons y).trans (.swap x y l)
theorem ZcA {α : Type} (key : α → Int) : ∀ l : List α, (Zdq key l).Perm l
 | [] => .refl _
 | x :: l => (Zjm key x _).trans ((ZcA key l).cons x)
theorem ZoJ {α : Type} (key : α → Int) (x : α) : ∀ l : List α, l.Pairwise (fun a b => key a ≤ key b) → (Zk2 key x l).Pairwise (fun a b => key a ≤ key b)
 | [], _ => by unfold Zk2; simp
 | y :: l, h => by
  unfold Zk2
  obtain ⟨h1, h2⟩ := List.pairwise_cons.1 h
  split
  ·rename_i c
   refine List.pairwise_cons.2 ⟨fun b hb => ?_, h⟩
   rcases List.mem_cons.1 hb with rfl | hb
   ·omega
   ·have := h1 b hb; omega
  ·rename_i c
   refine List.pairwise_cons.2 ⟨fun b hb => ?_, ZoJ key x l h2⟩
   rcases List.mem_cons.1 ((Zjm key x l).subset hb) with rfl | hb
   ·omega
   ·exact h1 b hb
theorem Zn8 {α : Type} (key : α → Int) : ∀ l : List α, (Zdq key l).Pairwise (fun a b => key a ≤ key b)
 | [] => .nil
 | x :: l => ZoJ key x _ (Zn8 key l)
theorem Zn9 {α : Type} (key : α → Int) {l : List α} (h : l.Pairwise fun a b => key a ≠ key b) : (Zdq key l).Pairwise (fun a b => key a < key b) := by
 have h2 : (Zdq key l).Pairwise fun a b => key a ≠ key b := ((ZcA key l).pairwise_iff (fun {a b} q => fun e => q e.symm)).2 h
 exact ((Zn8 key l).and h2).imp fun q => by have := q.1; have := q.2; omega
end Ev
end Go.Proofs.YtifdgbbbojccdaaGreat
/- Library functions, laid at this program. -/
namespace Go.Proofs
open Go.Shelf
def YtifdgbbbojccdaaGreat.Ev.cloneE_ren : Go.Shelf.Ren := ⟨fun | 41 => 14 | n => n, fun | 22 => 22 | 23 => 27 | 4 => 4 | n => n, fun | n => n⟩
theorem YtifdgbbbojccdaaGreat.Ev.cloneE : Go.Proofs.SlLaysE0.n41 Tryz.prog YtifdgbbbojccdaaGreat.Ev.cloneE_ren := {
  mixed := by kernel_rfl
  f41 := ⟨Tryz.f14.name, by decide, Tryz.func14.trans (congrArg some (by kernel_rfl))⟩
  t4 := Tryz.underlying4
  a4 := Tryz.isAgg4
  z4 := Tryz.sizeOf4
  v4 := Tryz.zeroValue4
  t22 := Tryz.underlying22
  a22 := Tryz.isAgg22
  z22 := Tryz.sizeOf22
  v22 := Tryz.zeroValue22 }
def YtifdgbbbojccdaaGreat.Ev.cloneV_ren : Go.Shelf.Ren := ⟨fun | 41 => 18 | n => n, fun | 22 => 24 | 23 => 43 | 4 => 4 | n => n, fun | n => n⟩
theorem YtifdgbbbojccdaaGreat.Ev.cloneV : Go.Proofs.SlLaysE0.n41 Tryz.prog YtifdgbbbojccdaaGreat.Ev.cloneV_ren := {
  mixed := by kernel_rfl
  f41 := ⟨Tryz.f18.name, by decide, Tryz.func18.trans (congrArg some (by kernel_rfl))⟩
  t4 := Tryz.underlying4
  a4 := Tryz.isAgg4
  z4 := Tryz.sizeOf4
  v4 := Tryz.zeroValue4
  t22 := Tryz.underlying24
  a22 := Tryz.isAgg24
  z22 := Tryz.sizeOf24
  v22 := Tryz.zeroValue24 }
def YtifdgbbbojccdaaGreat.Ev.sortE_ren : Go.Shelf.Ren := ⟨fun | 6 => 15 | 15 => 26 | 14 => 25 | 28 => 41 | 29 => 42 | 20 => 33 | 21 => 34 | 22 => 35 | 23 => 36 | 24 => 37 | 25 => 38 | 26 => 39 | 27 => 40 | 46 => 58 | 47 => 59 | 48 => 60 | 49 => 61 | 50 => 62 | 57 => 88 | n => n, fun | 22 => 22 | 24 => 27 | 25 => 39 | 3 => 3 | 39 => 70 | 0 => 0 | 53 => 94 | 55 => 96 | 4 => 4 | 46 => 88 | 45 => 87 | 50 => 67 | 5 => 5 | 9 => 9 | 66 => 113 | 70 => 117 | 76 => 156 | 77 => 157 | n => n, fun | n => n⟩
theorem YtifdgbbbojccdaaGreat.Ev.sortE : Go.Proofs.SlLaysF0.n6 Tryz.prog YtifdgbbbojccdaaGreat.Ev.sortE_ren := {
  mixed := by kernel_rfl
  f6 := ⟨Tryz.f15.name, by decide, Tryz.func15.trans (congrArg some (by kernel_rfl))⟩
  f14 := ⟨Tryz.f25.name, by decide, Tryz.func25.trans (congrArg some (by kernel_rfl))⟩
  f15 := Tryz.func26.trans (congrArg some (by kernel_rfl))
  f20 := ⟨Tryz.f33.name, by decide, Tryz.func33.trans (congrArg some (by kernel_rfl))⟩
  f21 := ⟨Tryz.f34.name, by decide, Tryz.func34.trans (congrArg some (by kernel_rfl))⟩
  f22 := ⟨Tryz.f35.name, by decide, Tryz.func35.trans (congrArg some (by kernel_rfl))⟩
  f23 := ⟨Tryz.f36.name, by decide, Tryz.func36.trans (congrArg some (by kernel_rfl))⟩
  f24 := ⟨Tryz.f37.name, by decide, Tryz.func37.trans (congrArg some (by kernel_rfl))⟩
  f25 := ⟨Tryz.f38.name, by decide, Tryz.func38.trans (congrArg some (by kernel_rfl))⟩
  f26 := ⟨Tryz.f39.name, by decide, Tryz.func39.trans (congrArg some (by kernel_rfl))⟩
  f27 := ⟨Tryz.f40.name, by decide, Tryz.func40.trans (congrArg some (by kernel_rfl))⟩
  f28 := Tryz.func41.trans (congrArg some (by kernel_rfl))
  f29 := Tryz.func42.trans (congrArg some (by kernel_rfl))
  f46 := ⟨Tryz.f58.name, by decide, Tryz.func58.trans (congrArg some (by kernel_rfl))⟩
  f47 := Tryz.func59.trans (congrArg some (by kernel_rfl))
  f48 := Tryz.func60.trans (congrArg some (by kernel_rfl))
  f49 := ⟨Tryz.f61.name, by decide, Tryz.func61.trans (congrArg some (by kernel_rfl))⟩
  f50 := ⟨Tryz.f62.name, by decide, Tryz.func62.trans (congrArg some (by kernel_rfl))⟩
  f57 := ⟨Tryz.f88.name, by decide, Tryz.func88.trans (congrArg some (by kernel_rfl))⟩
  t0 := Tryz.underlying0
  a0 := Tryz.isAgg0
  z0 := Tryz.sizeOf0
  v0 := Tryz.zeroValue0
  t3 := Tryz.underlying3
  a3 := Tryz.isAgg3
  z3 := Tryz.sizeOf3
  v3 := Tryz.zeroValue3
  t4 := Tryz.underlying4
  a4 := Tryz.isAgg4
  z4 := Tryz.sizeOf4
  v4 := Tryz.zeroValue4
  t5 := Tryz.underlying5
  a5 := Tryz.isAgg5
  z5 := Tryz.sizeOf5
  v5 := Tryz.zeroValue5
  t9 := Tryz.underlying9
  a9 := Tryz.isAgg9
  z9 := Tryz.sizeOf9
  v9 := Tryz.zeroValue9
  t22 := Tryz.underlying22
  a22 := Tryz.isAgg22
  z22 := Tryz.sizeOf22
  v22 := Tryz.zeroValue22
  t25 := Tryz.underlying39
  a25 := Tryz.isAgg39
  z25 := Tryz.sizeOf39
  v25 := Tryz.zeroValue39
  t39 := Tryz.underlying70
  a39 := Tryz.isAgg70
  z39 := Tryz.sizeOf70
  v39 := Tryz.zeroValue70
  t45 := Tryz.underlying87
  a45 := Tryz.isAgg87
  z45 := Tryz.sizeOf87
  v45 := Tryz.zeroValue87
  t46 := Tryz.underlying88
  a46 := Tryz.isAgg88
  z46 := Tryz.sizeOf88
  v46 := Tryz.zeroValue88
  t50 := Tryz.underlying67
  a50 := Tryz.isAgg67
  z50 := Tryz.sizeOf67
  v50 := Tryz.zeroValue67
  t53 := Tryz.underlying94
  a53 := Tryz.isAgg94
  z53 := Tryz.sizeOf94
  v53 := Tryz.zeroValue94
  t55 := Tryz.underlying96
  a55 := Tryz.isAgg96
  z55 := Tryz.sizeOf96
  v55 := Tryz.zeroValue96
  t66 := Tryz.underlying113
  a66 := Tryz.isAgg113
  z66 := Tryz.sizeOf113
  v66 := Tryz.zeroValue113
  t70 := Tryz.underlying117
  a70 := Tryz.isAgg117
  z70 := Tryz.sizeOf117
  v70 := Tryz.zeroValue117
  t76 := Tryz.underlying156
  a76 := Tryz.isAgg156
  z76 := Tryz.sizeOf156
  v76 := Tryz.zeroValue156
  t77 := Tryz.underlying157
  a77 := Tryz.isAgg157
  z77 := Tryz.sizeOf157
  v77 := Tryz.zeroValue157 }
def YtifdgbbbojccdaaGreat.Ev.cmpI_ren : Go.Shelf.Ren := ⟨fun | 5 => 17 | 7 => 27 | n => n, fun | 22 => 3 | 3 => 3 | 4 => 4 | n => n, fun | n => n⟩
theorem YtifdgbbbojccdaaGreat.Ev.cmpI : Go.Proofs.SlLaysC2.n5 Tryz.prog YtifdgbbbojccdaaGreat.Ev.cmpI_ren := {
  mixed := by kernel_rfl
  f5 := ⟨Tryz.f17.name, by decide, Tryz.func17.trans (congrArg some (by kernel_rfl))⟩
  f7 := ⟨Tryz.f27.name, by decide, Tryz.func27.trans (congrArg some (by kernel_rfl))⟩
  t3 := Tryz.underlying3
  a3 := Tryz.isAgg3
  z3 := Tryz.sizeOf3
  v3 := Tryz.zeroValue3
  t4 := Tryz.underlying4
  a4 := Tryz.isAgg4
  z4 := Tryz.sizeOf4
  v4 := Tryz.zeroValue4
  t22 := Tryz.underlying3
  a22 := Tryz.isAgg3
  z22 := Tryz.sizeOf3
  v22 := Tryz.zeroValue3 }
end Go.Proofs
namespace Go.Proofs.YtifdgbbbojccdaaGreat
open Go.RowKit Go.Lib
namespace Ev
def ZqW (P : Program) (t : TypeId) (sz bytes : Nat) : Bool := match P.info? t with
 | some i => match i.zero with
  | some z => Nat.beq i.size sz && Nat.beq i.bytes bytes && Nat.beq z.cells.size sz
  | none => false
 | none => false
theorem Zqp {P : Program} {t : TypeId} {sz bytes : Nat} (h : ZqW P t sz bytes = true) : ∃ i0 z, P.info? t = some i0 ∧ i0.zero = some z ∧ i0.size = sz ∧ i0.bytes = bytes ∧ z.cells.size = sz := by
 unfold ZqW at h
 split at h
 ·rename_i i hi
  split at h
  ·rename_i z hz
   simp only [Bool.and_eq_true] at h
   exact ⟨i, z, hi, hz, Nat.eq_of_beq_eq_true h.1.1, Nat.eq_of_beq_eq_true h.1.2, Nat.eq_of_beq_eq_true h.2⟩
  ·cases h
 ·cases h
theorem ZnA {P : Program} {t : TypeId} {i : TypeInfo} (h : P.info? t = some i) (w : World) : (Go.sizeOf t).run P w = .ok i.size w := by
 simp [Go.sizeOf, typeInfo, h, Result.andThen, Sem.run]
theorem ZoK {ρ : Shelf.Ren} {P : Program} (L : SlLaysE0.n41 P ρ) {t : TypeId} {sz bytes : Nat} (ht : ρ.t 23 = t) (h : ZqW P t sz bytes = true) (hp : 0 < sz) : ZeS P ρ sz bytes := by
 subst ht
 obtain ⟨i0, z, k1, k2, k3, k4, k5⟩ := Zqp h
 exact ⟨L, ⟨i0, z, k1, k2, k3, k4, k5⟩, hp, fun w => by rw [ZnA k1, k3]⟩
theorem Zk5 : ZeS Tryz.prog cloneE_ren 8 80 := ZoK cloneE (t := 27) rfl (by kernel_rfl) (by decide)
theorem ZqX : ZeS Tryz.prog cloneV_ren 2 16 := ZoK cloneV (t := 43) rfl (by kernel_rfl) (by decide)
theorem ZrE (w : World) : (isAgg 27).run Tryz.prog w = .ok true w := by
 simp [isAgg, run_underlying Tryz.underlying27, Result.andThen, Sem.run]
set_option maxHeartbeats 1000000 in
theorem ZrF (x0 x1 x2 x3 x5 x6 x7 y0 y1 y2 y3 y5 y6 y7 : Value) (m n : Int) (W : World) : Calls Tryz.prog 16 #[.agg #[x0, x1, x2, x3, .int .i64 m, x5, x6, x7], .agg #[y0, y1, y2, y3, .int .i64 n, y5, y6, y7]] W fun e w' => e = .returned (.int .i64 (Lib.compareInt m n)) ∧ ∃ r os, w' = Go.Sort.grow (W.drewN r) os := by
 have hcon := fun W' => AnyG.cmp_Compare_int cmpI m n W'
 change ∀ W', Calls Tryz.prog 17 _ _ _ at hcon
 generalize Lib.compareInt m n = r at hcon ⊢
 go_enter Tryz.func16, Tryz.ntmps16
 go_wp2_with (go_at_call 17; refine (hcon _).mono ?_; rintro e w' ⟨rfl, rfl⟩)
 go_ret
 exact ⟨rfl, 0, _, by rw [Go.Sort.alloc_eq_grow, Go.Sort.alloc_eq_grow, Go.Sort.grow_grow]; rfl⟩
theorem ZoL : Zn6 Tryz.prog sortE_ren 8 4 16 := by
 obtain ⟨i0, z, k1, _, k3, _⟩ := Zqp (P := Tryz.prog) (t := 27) (sz := 8) (bytes := 80) (by kernel_rfl)
 refine ⟨sortE, ZrE, fun w => (ZnA k1 w).trans (by rw [k3]), by decide, enters_of Tryz.func16 (by kernel_rfl) rfl, fun x y m n W hx hy hm hn _ _ => ?_⟩
 match x, hx, hm with
 | [x0, x1, x2, x3, x4, x5, x6, x7], _, hm =>
  match y, hy, hn with
  | [y0, y1, y2, y3, y4, y5, y6, y7], _, hn =>
   obtain rfl : x4 = .int .i64 m := Option.some.inj hm
   obtain rfl : y4 = .int .i64 n := Option.some.inj hn
   exact ZrF x0 x1 x2 x3 x5 x6 x7 y0 y1 y2 y3 y5 y6 y7 m n W
end Ev
end Go.Proofs.YtifdgbbbojccdaaGreat
/- Calls do what the plain functions say. -/
namespace Go.Proofs.YtifdgbbbojccdaaGreat
open Go.RowKit
namespace Ev
set_option linter.unusedVariables false
set_option maxRecDepth 100000
noncomputable def Zlq (L0 : List R_iiiiiiAi) : ZaG → Value
 | .r0 => vn
 | .r1 w0 => vs 0 0 w0.length w0.length
noncomputable def Zkg (L0 : List R_iiiiiiAi) : ZaG → List (Option AObj)
 | .r0 => []
 | .r1 w0 => [some (.cells (Zb E_iiiiiiAi w0) 27)]

def Zop : Z8 → Nat
 | .h1m0 => 1
 | .h1m1 v1 v2 => 1
noncomputable def Zp5 (L0 : List R_iiiiiiAi) : Z8 → List (Nat × Value)
 | .h1m0 => [(0, ms E_iiiiiiAi L0), (3, vn), (4, vq)]
 | .h1m1 v1 v2 => [(0, ms E_iiiiiiAi L0), (3, vs 0 0 v1.length v1.length), (4, vi (v2 : Int))]
noncomputable def Zp6 (L0 : List R_iiiiiiAi) : Z8 → List (Option AObj)
 | .h1m0 => []
 | .h1m1 v1 v2 => [some (.cells (Zb E_iiiiiiAi v1) 27)]

noncomputable def Zdv : Nat → Code × List Zap
 | 1 => ZaU [1, 1, 0, 1, 3] (ZbW Tryz.f5) []
 | _ => (.skip, [])
def Zkh : Nat → Bool
 | 1 => true
 | _ => true
noncomputable def Zgy (i : Nat) : List Zap := match Zkh i with | true => .rnd i :: (Zdv i).2 | false => (Zdv i).2

noncomputable def ZaI (L0 : List R_iiiiiiAi) (N : Nat) : Mach := ⟨Tryz.f5, [], Z8, ZaG, Zbj L0 N, Zop, Zdv, Zkh, Zp5 L0, Zp6 L0, Zlq L0, Zkg L0⟩

theorem Zlr (L0 : List R_iiiiiiAi) (N : Nat) : (ZaI L0 N).Ok Tryz.prog Zp (.h1m0 : Z8) (Zbj L0 N (.h1m0 : Z8)) := by
 show (ZaI L0 N).Ok Tryz.prog Zp (.h1m0 : Z8) (Zba L0 N)
 unfold Zba
 refine Mach.ok_ite (fun g0 => ?_) (fun g0 => ?_)
 ·
  refine Mach.ok_ite (fun g1 => ?_) (fun g1 => ?_)
  ·
   exact Mach.ok_next (M := ZaI L0 N) (cd := 1000000) (cm := 0) (y := (.h1m1 (([(⟨(L0.getD 0 R_iiiiiiAi.z).a0, (L0.getD 0 R_iiiiiiAi.z).a1, (L0.getD 0 R_iiiiiiAi.z).a2, (L0.getD 0 R_iiiiiiAi.z).a3, (L0.getD 0 R_iiiiiiAi.z).a4, (L0.getD 0 R_iiiiiiAi.z).a5, ((L0.getD 0 R_iiiiiiAi.z).a6.take 12), (L0.getD 0 R_iiiiiiAi.z).a7⟩ : R_iiiiiiAi)] : List R_iiiiiiAi)) (1) : Z8)) (fu := 4000) (orc := (Zm [(0, true), (2, true)] [] [(0, 0)] [(0, [.i (L0.getD 0 R_iiiiiiAi.z).a0, .i (L0.getD 0 R_iiiiiiAi.z).a1, .i (L0.getD 0 R_iiiiiiAi.z).a2, .i (L0.getD 0 R_iiiiiiAi.z).a3, .i (L0.getD 0 R_iiiiiiAi.z).a4, .i (L0.getD 0 R_iiiiiiAi.z).a5, (mc E_ii (L0.getD 0 R_iiiiiiAi.z).a6), .i (L0.getD 0 R_iiiiiiAi.z).a7])] [(0, .ms 0 12 ((L0.getD 0 R_iiiiiiAi.z).a6.take 12).length (ZU E_ii ((L0.getD 0 R_iiiiiiAi.z).a6.take 12)))])) (live := [3]) (tv := fun _ => [some (ms E_iiiiiiAi L0), some (vs 3 0 1 1), some (vi (1 : Int))]) (bl := [some (.cells [vi (L0.getD 0 R_iiiiiiAi.z).a0, vi (L0.getD 0 R_iiiiiiAi.z).a1, vi (L0.getD 0 R_iiiiiiAi.z).a2, vi (L0.getD 0 R_iiiiiiAi.z).a3, vi (L0.getD 0 R_iiiiiiAi.z).a4, vi (L0.getD 0 R_iiiiiiAi.z).a5, ms E_ii ((L0.getD 0 R_iiiiiiAi.z).a6.take 12), vi (L0.getD 0 R_iiiiiiAi.z).a7] 27)]) (ob := [(dP (0 ≤ 12 ∧ 12 ≤ (L0.getD 0 R_iiiiiiAi.z).a6.length ∧ Zao (code (ZU E_ii (L0.getD 0 R_iiiiiiAi.z).a6)) (0 + 0 * 2) (ZU E_ii ((L0.getD 0 R_iiiiiiAi.z).a6.take 12)).length = some (ZU E_ii ((L0.getD 0 R_iiiiiiAi.z).a6.take 12)) ∧ (12 - 0) * 2 = (ZU E_ii ((L0.getD 0 R_iiiiiiAi.z).a6.take 12)).length ∧ ((L0.getD 0 R_iiiiiiAi.z).a6.take 12).length = 12 - 0), true), ((12 : Int) == Int.ofNat 12, true), (dS 0, true), ((decide ((((L0.getD 0 R_iiiiiiAi.z).a6.length : Nat) : Int) > (12 : Int))), true), (dP (Zao (code (ZU E_iiiiiiAi L0)) (0 + (0 * 8)) 8 = some [.i (L0.getD 0 R_iiiiiiAi.z).a0, .i (L0.getD 0 R_iiiiiiAi.z).a1, .i (L0.getD 0 R_iiiiiiAi.z).a2, .i (L0.getD 0 R_iiiiiiAi.z).a3, .i (L0.getD 0 R_iiiiiiAi.z).a4, .i (L0.getD 0 R_iiiiiiAi.z).a5, (mc E_ii (L0.getD 0 R_iiiiiiAi.z).a6), .i (L0.getD 0 R_iiiiiiAi.z).a7]), true), (Nat.blt 0 L0.length, true), ((0 : Int) == Int.ofNat 0, true), ((decide ((0 : Int) < (L0.length : Int))), true)]) rfl (show 1 ∈ Zv (Zgy 1) from by decide +kernel) (fun gv => by kernel_rfl) (Za (Ze (Zrn (E := E_ii) (L := (L0.getD 0 R_iiiiiiAi.z).a6) (R := ((L0.getD 0 R_iiiiiiAi.z).a6.take 12)) (l := 0) (h := 12) (size := 2) ltA ltA (by decide) (by simp))) <| oI <| oR <| oY <| Za (Ze (ZcE (E := E_iiiiiiAi) (L := L0) (i := 0) (q := 0) (by omega) (show (0 + (0 * 8)) = 0 * 8 + 0 from by omega) (show 0 + 8 ≤ 8 from by decide) rfl)) <| oB <| oI <| oY Zf) rfl (by decide) (by rfl) (fun _ => ⟨rr, ⟨⟨Eq.trans (show (vs 0 0 ([(⟨(L0.getD 0 R_iiiiiiAi.z).a0, (L0.getD 0 R_iiiiiiAi.z).a1, (L0.getD 0 R_iiiiiiAi.z).a2, (L0.getD 0 R_iiiiiiAi.z).a3, (L0.getD 0 R_iiiiiiAi.z).a4, (L0.getD 0 R_iiiiiiAi.z).a5, ((L0.getD 0 R_iiiiiiAi.z).a6.take 12), (L0.getD 0 R_iiiiiiAi.z).a7⟩ : R_iiiiiiAi)] : List R_iiiiiiAi).length ([(⟨(L0.getD 0 R_iiiiiiAi.z).a0, (L0.getD 0 R_iiiiiiAi.z).a1, (L0.getD 0 R_iiiiiiAi.z).a2, (L0.getD 0 R_iiiiiiAi.z).a3, (L0.getD 0 R_iiiiiiAi.z).a4, (L0.getD 0 R_iiiiiiAi.z).a5, ((L0.getD 0 R_iiiiiiAi.z).a6.take 12), (L0.getD 0 R_iiiiiiAi.z).a7⟩ : R_iiiiiiAi)] : List R_iiiiiiAi).length : Value) = vs 0 0 1 1 from (Zdp rfl eqA eqA)) (by rfl), by rfl⟩, ⟨⟨Eq.trans (show (vi ((1 : Nat) : Int) : Value) = vi (1 : Int) from (congrArg (Value.int .i64) (by first | rfl | omega))) (by rfl), by rfl⟩, trivial⟩⟩⟩) ⟨(Zgt (E := E_iiiiiiAi) _ (L := ([(⟨(L0.getD 0 R_iiiiiiAi.z).a0, (L0.getD 0 R_iiiiiiAi.z).a1, (L0.getD 0 R_iiiiiiAi.z).a2, (L0.getD 0 R_iiiiiiAi.z).a3, (L0.getD 0 R_iiiiiiAi.z).a4, (L0.getD 0 R_iiiiiiAi.z).a5, ((L0.getD 0 R_iiiiiiAi.z).a6.take 12), (L0.getD 0 R_iiiiiiAi.z).a7⟩ : R_iiiiiiAi)] : List R_iiiiiiAi)) _ (show ([vi (L0.getD 0 R_iiiiiiAi.z).a0, vi (L0.getD 0 R_iiiiiiAi.z).a1, vi (L0.getD 0 R_iiiiiiAi.z).a2, vi (L0.getD 0 R_iiiiiiAi.z).a3, vi (L0.getD 0 R_iiiiiiAi.z).a4, vi (L0.getD 0 R_iiiiiiAi.z).a5, ms E_ii ((L0.getD 0 R_iiiiiiAi.z).a6.take 12), vi (L0.getD 0 R_iiiiiiAi.z).a7] : List Value) = Zb E_iiiiiiAi ([(⟨(L0.getD 0 R_iiiiiiAi.z).a0, (L0.getD 0 R_iiiiiiAi.z).a1, (L0.getD 0 R_iiiiiiAi.z).a2, (L0.getD 0 R_iiiiiiAi.z).a3, (L0.getD 0 R_iiiiiiAi.z).a4, (L0.getD 0 R_iiiiiiAi.z).a5, ((L0.getD 0 R_iiiiiiAi.z).a6.take 12), (L0.getD 0 R_iiiiiiAi.z).a7⟩ : R_iiiiiiAi)] : List R_iiiiiiAi) from rfl)), trivial⟩
  ·
   exact Mach.ok_next (M := ZaI L0 N) (cd := 1000000) (cm := 0) (y := (.h1m1 (([(⟨(L0.getD 0 R_iiiiiiAi.z).a0, (L0.getD 0 R_iiiiiiAi.z).a1, (L0.getD 0 R_iiiiiiAi.z).a2, (L0.getD 0 R_iiiiiiAi.z).a3, (L0.getD 0 R_iiiiiiAi.z).a4, (L0.getD 0 R_iiiiiiAi.z).a5, (L0.getD 0 R_iiiiiiAi.z).a6, (L0.getD 0 R_iiiiiiAi.z).a7⟩ : R_iiiiiiAi)] : List R_iiiiiiAi)) (1) : Z8)) (fu := 4000) (orc := (Zm [(0, true), (2, false)] [] [(0, 0)] [(0, [.i (L0.getD 0 R_iiiiiiAi.z).a0, .i (L0.getD 0 R_iiiiiiAi.z).a1, .i (L0.getD 0 R_iiiiiiAi.z).a2, .i (L0.getD 0 R_iiiiiiAi.z).a3, .i (L0.getD 0 R_iiiiiiAi.z).a4, .i (L0.getD 0 R_iiiiiiAi.z).a5, (mc E_ii (L0.getD 0 R_iiiiiiAi.z).a6), .i (L0.getD 0 R_iiiiiiAi.z).a7])] [])) (live := [3]) (tv := fun _ => [some (ms E_iiiiiiAi L0), some (vs 3 0 1 1), some (vi (1 : Int))]) (bl := [some (.cells [vi (L0.getD 0 R_iiiiiiAi.z).a0, vi (L0.getD 0 R_iiiiiiAi.z).a1, vi (L0.getD 0 R_iiiiiiAi.z).a2, vi (L0.getD 0 R_iiiiiiAi.z).a3, vi (L0.getD 0 R_iiiiiiAi.z).a4, vi (L0.getD 0 R_iiiiiiAi.z).a5, ms E_ii (L0.getD 0 R_iiiiiiAi.z).a6, vi (L0.getD 0 R_iiiiiiAi.z).a7] 27)]) (ob := [((decide ((((L0.getD 0 R_iiiiiiAi.z).a6.length : Nat) : Int) > (12 : Int))), false), (dP (Zao (code (ZU E_iiiiiiAi L0)) (0 + (0 * 8)) 8 = some [.i (L0.getD 0 R_iiiiiiAi.z).a0, .i (L0.getD 0 R_iiiiiiAi.z).a1, .i (L0.getD 0 R_iiiiiiAi.z).a2, .i (L0.getD 0 R_iiiiiiAi.z).a3, .i (L0.getD 0 R_iiiiiiAi.z).a4, .i (L0.getD 0 R_iiiiiiAi.z).a5, (mc E_ii (L0.getD 0 R_iiiiiiAi.z).a6), .i (L0.getD 0 R_iiiiiiAi.z).a7]), true), (Nat.blt 0 L0.length, true), ((0 : Int) == Int.ofNat 0, true), ((decide ((0 : Int) < (L0.length : Int))), true)]) rfl (show 1 ∈ Zv (Zgy 1) from by decide +kernel) (fun gv => by kernel_rfl) (oN <| Za (Ze (ZcE (E := E_iiiiiiAi) (L := L0) (i := 0) (q := 0) (by omega) (show (0 + (0 * 8)) = 0 * 8 + 0 from by omega) (show 0 + 8 ≤ 8 from by decide) rfl)) <| oB <| oI <| oY Zf) rfl (by decide) (by rfl) (fun _ => ⟨rr, ⟨⟨Eq.trans (show (vs 0 0 ([(⟨(L0.getD 0 R_iiiiiiAi.z).a0, (L0.getD 0 R_iiiiiiAi.z).a1, (L0.getD 0 R_iiiiiiAi.z).a2, (L0.getD 0 R_iiiiiiAi.z).a3, (L0.getD 0 R_iiiiiiAi.z).a4, (L0.getD 0 R_iiiiiiAi.z).a5, (L0.getD 0 R_iiiiiiAi.z).a6, (L0.getD 0 R_iiiiiiAi.z).a7⟩ : R_iiiiiiAi)] : List R_iiiiiiAi).length ([(⟨(L0.getD 0 R_iiiiiiAi.z).a0, (L0.getD 0 R_iiiiiiAi.z).a1, (L0.getD 0 R_iiiiiiAi.z).a2, (L0.getD 0 R_iiiiiiAi.z).a3, (L0.getD 0 R_iiiiiiAi.z).a4, (L0.getD 0 R_iiiiiiAi.z).a5, (L0.getD 0 R_iiiiiiAi.z).a6, (L0.getD 0 R_iiiiiiAi.z).a7⟩ : R_iiiiiiAi)] : List R_iiiiiiAi).length : Value) = vs 0 0 1 1 from (Zdp rfl eqA eqA)) (by rfl), by rfl⟩, ⟨⟨Eq.trans (show (vi ((1 : Nat) : Int) : Value) = vi (1 : Int) from (congrArg (Value.int .i64) (by first | rfl | omega))) (by rfl), by rfl⟩, trivial⟩⟩⟩) ⟨(Zgt (E := E_iiiiiiAi) _ (L := ([(⟨(L0.getD 0 R_iiiiiiAi.z).a0, (L0.getD 0 R_iiiiiiAi.z).a1, (L0.getD 0 R_iiiiiiAi.z).a2, (L0.getD 0 R_iiiiiiAi.z).a3, (L0.getD 0 R_iiiiiiAi.z).a4, (L0.getD 0 R_iiiiiiAi.z).a5, (L0.getD 0 R_iiiiiiAi.z).a6, (L0.getD 0 R_iiiiiiAi.z).a7⟩ : R_iiiiiiAi)] : List R_iiiiiiAi)) _ (show ([vi (L0.getD 0 R_iiiiiiAi.z).a0, vi (L0.getD 0 R_iiiiiiAi.z).a1, vi (L0.getD 0 R_iiiiiiAi.z).a2, vi (L0.getD 0 R_iiiiiiAi.z).a3, vi (L0.getD 0 R_iiiiiiAi.z).a4, vi (L0.getD 0 R_iiiiiiAi.z).a5, ms E_ii (L0.getD 0 R_iiiiiiAi.z).a6, vi (L0.getD 0 R_iiiiiiAi.z).a7] : List Value) = Zb E_iiiiiiAi ([(⟨(L0.getD 0 R_iiiiiiAi.z).a0, (L0.getD 0 R_iiiiiiAi.z).a1, (L0.getD 0 R_iiiiiiAi.z).a2, (L0.getD 0 R_iiiiiiAi.z).a3, (L0.getD 0 R_iiiiiiAi.z).a4, (L0.getD 0 R_iiiiiiAi.z).a5, (L0.getD 0 R_iiiiiiAi.z).a6, (L0.getD 0 R_iiiiiiAi.z).a7⟩ : R_iiiiiiAi)] : List R_iiiiiiAi) from rfl)), trivial⟩
 ·
  exact Mach.ok_fin (M := ZaI L0 N) (cd := 1000000) (cm := 0) (r := (.r0 : ZaG)) (fu := 4000) (orc := (Zm [(0, false)] [] [] [] [])) (live := []) (u := vn) (bl := []) (ob := [((decide ((0 : Int) < (L0.length : Int))), false)]) (fun gv => by kernel_rfl) (oN Zf) rfl (by decide) (by rfl) rr trivial

theorem Zls (L0 v1 : List R_iiiiiiAi) (v2 N : Nat) : (ZaI L0 N).Ok Tryz.prog Zp (.h1m1 v1 v2 : Z8) (Zbj L0 N (.h1m1 v1 v2 : Z8)) := by
 show (ZaI L0 N).Ok Tryz.prog Zp (.h1m1 v1 v2 : Z8) (ZaA L0 N v1 v2)
 unfold ZaA
 refine Mach.ok_ite (fun g0 => ?_) (fun g0 => ?_)
 ·
  refine Mach.ok_ite (fun g1 => ?_) (fun g1 => ?_)
  ·
   refine Mach.ok_ite (fun g2 => ?_) (fun g2 => ?_)
   ·
    refine Mach.ok_ite (fun g3 => ?_) (fun g3 => ?_)
    ·
     exact Mach.ok_next (M := ZaI L0 N) (cd := 1000000) (cm := 0) (y := (.h1m1 ((v1 ++ ([(⟨(L0.getD v2 R_iiiiiiAi.z).a0, (L0.getD v2 R_iiiiiiAi.z).a1, (L0.getD v2 R_iiiiiiAi.z).a2, (L0.getD v2 R_iiiiiiAi.z).a3, (L0.getD v2 R_iiiiiiAi.z).a4, (L0.getD v2 R_iiiiiiAi.z).a5, ((L0.getD v2 R_iiiiiiAi.z).a6.take 12), (L0.getD v2 R_iiiiiiAi.z).a7⟩ : R_iiiiiiAi)] : List R_iiiiiiAi))) ((v2 + 1)) : Z8)) (fu := 4000) (orc := (Zm [(0, true), (1, true), (2, true)] [(0, (((v2 + 1) : Nat) : Int))] [(0, v2)] [(0, [.i (L0.getD v2 R_iiiiiiAi.z).a0, .i (L0.getD v2 R_iiiiiiAi.z).a1, .i (L0.getD v2 R_iiiiiiAi.z).a2, .i (L0.getD v2 R_iiiiiiAi.z).a3, .i (L0.getD v2 R_iiiiiiAi.z).a4, .i (L0.getD v2 R_iiiiiiAi.z).a5, (mc E_ii (L0.getD v2 R_iiiiiiAi.z).a6), .i (L0.getD v2 R_iiiiiiAi.z).a7])] [(0, .ms 0 12 ((L0.getD v2 R_iiiiiiAi.z).a6.take 12).length (ZU E_ii ((L0.getD v2 R_iiiiiiAi.z).a6.take 12))), (3, .ap 1 [vi (L0.getD v2 R_iiiiiiAi.z).a0, vi (L0.getD v2 R_iiiiiiAi.z).a1, vi (L0.getD v2 R_iiiiiiAi.z).a2, vi (L0.getD v2 R_iiiiiiAi.z).a3, vi (L0.getD v2 R_iiiiiiAi.z).a4, vi (L0.getD v2 R_iiiiiiAi.z).a5, ms E_ii ((L0.getD v2 R_iiiiiiAi.z).a6.take 12), vi (L0.getD v2 R_iiiiiiAi.z).a7] (Zb E_iiiiiiAi (v1 ++ ([(⟨(L0.getD v2 R_iiiiiiAi.z).a0, (L0.getD v2 R_iiiiiiAi.z).a1, (L0.getD v2 R_iiiiiiAi.z).a2, (L0.getD v2 R_iiiiiiAi.z).a3, (L0.getD v2 R_iiiiiiAi.z).a4, (L0.getD v2 R_iiiiiiAi.z).a5, ((L0.getD v2 R_iiiiiiAi.z).a6.take 12), (L0.getD v2 R_iiiiiiAi.z).a7⟩ : R_iiiiiiAi)] : List R_iiiiiiAi))))])) (live := [4]) (tv := fun _ => [some (ms E_iiiiiiAi L0), some (vs 4 0 (v1.length + 1) (v1.length + 1)), some (vi (((v2 + 1) : Nat) : Int))]) (bl := [some (.cells (Zb E_iiiiiiAi (v1 ++ ([(⟨(L0.getD v2 R_iiiiiiAi.z).a0, (L0.getD v2 R_iiiiiiAi.z).a1, (L0.getD v2 R_iiiiiiAi.z).a2, (L0.getD v2 R_iiiiiiAi.z).a3, (L0.getD v2 R_iiiiiiAi.z).a4, (L0.getD v2 R_iiiiiiAi.z).a5, ((L0.getD v2 R_iiiiiiAi.z).a6.take 12), (L0.getD v2 R_iiiiiiAi.z).a7⟩ : R_iiiiiiAi)] : List R_iiiiiiAi))) 27)]) (ob := [((IntKind.i64.wrap ((v2 : Int) + (1 : Int))) == (((v2 + 1) : Nat) : Int), true), (dP ((1 = 1 ∧ Zl (1 * 8) (List.drop 0 [vi (L0.getD v2 R_iiiiiiAi.z).a0, vi (L0.getD v2 R_iiiiiiAi.z).a1, vi (L0.getD v2 R_iiiiiiAi.z).a2, vi (L0.getD v2 R_iiiiiiAi.z).a3, vi (L0.getD v2 R_iiiiiiAi.z).a4, vi (L0.getD v2 R_iiiiiiAi.z).a5, ms E_ii ((L0.getD v2 R_iiiiiiAi.z).a6.take 12), vi (L0.getD v2 R_iiiiiiAi.z).a7]) = some [vi (L0.getD v2 R_iiiiiiAi.z).a0, vi (L0.getD v2 R_iiiiiiAi.z).a1, vi (L0.getD v2 R_iiiiiiAi.z).a2, vi (L0.getD v2 R_iiiiiiAi.z).a3, vi (L0.getD v2 R_iiiiiiAi.z).a4, vi (L0.getD v2 R_iiiiiiAi.z).a5, ms E_ii ((L0.getD v2 R_iiiiiiAi.z).a6.take 12), vi (L0.getD v2 R_iiiiiiAi.z).a7] ∧ Zn Za5 [vi (L0.getD v2 R_iiiiiiAi.z).a0, vi (L0.getD v2 R_iiiiiiAi.z).a1, vi (L0.getD v2 R_iiiiiiAi.z).a2, vi (L0.getD v2 R_iiiiiiAi.z).a3, vi (L0.getD v2 R_iiiiiiAi.z).a4, vi (L0.getD v2 R_iiiiiiAi.z).a5, ms E_ii ((L0.getD v2 R_iiiiiiAi.z).a6.take 12), vi (L0.getD v2 R_iiiiiiAi.z).a7] = true) ∧ 0 < 1 ∧ 1 ≤ 100000 ∧ v1.length < v1.length + 1 ∧ v1.length ≤ 100000 ∧ v1.length * 8 ≤ (List.length (Zb E_iiiiiiAi v1)) ∧ List.take (v1.length * 8) (Zb E_iiiiiiAi v1) ++ [vi (L0.getD v2 R_iiiiiiAi.z).a0, vi (L0.getD v2 R_iiiiiiAi.z).a1, vi (L0.getD v2 R_iiiiiiAi.z).a2, vi (L0.getD v2 R_iiiiiiAi.z).a3, vi (L0.getD v2 R_iiiiiiAi.z).a4, vi (L0.getD v2 R_iiiiiiAi.z).a5, ms E_ii ((L0.getD v2 R_iiiiiiAi.z).a6.take 12), vi (L0.getD v2 R_iiiiiiAi.z).a7] = (Zb E_iiiiiiAi (v1 ++ ([(⟨(L0.getD v2 R_iiiiiiAi.z).a0, (L0.getD v2 R_iiiiiiAi.z).a1, (L0.getD v2 R_iiiiiiAi.z).a2, (L0.getD v2 R_iiiiiiAi.z).a3, (L0.getD v2 R_iiiiiiAi.z).a4, (L0.getD v2 R_iiiiiiAi.z).a5, ((L0.getD v2 R_iiiiiiAi.z).a6.take 12), (L0.getD v2 R_iiiiiiAi.z).a7⟩ : R_iiiiiiAi)] : List R_iiiiiiAi)))), true), (dP (0 ≤ 12 ∧ 12 ≤ (L0.getD v2 R_iiiiiiAi.z).a6.length ∧ Zao (code (ZU E_ii (L0.getD v2 R_iiiiiiAi.z).a6)) (0 + 0 * 2) (ZU E_ii ((L0.getD v2 R_iiiiiiAi.z).a6.take 12)).length = some (ZU E_ii ((L0.getD v2 R_iiiiiiAi.z).a6.take 12)) ∧ (12 - 0) * 2 = (ZU E_ii ((L0.getD v2 R_iiiiiiAi.z).a6.take 12)).length ∧ ((L0.getD v2 R_iiiiiiAi.z).a6.take 12).length = 12 - 0), true), ((12 : Int) == Int.ofNat 12, true), (dS 0, true), ((decide ((((L0.getD v2 R_iiiiiiAi.z).a6.length : Nat) : Int) > (12 : Int))), true), (dP (Zao (code (ZU E_iiiiiiAi L0)) (0 + (v2 * 8)) 8 = some [.i (L0.getD v2 R_iiiiiiAi.z).a0, .i (L0.getD v2 R_iiiiiiAi.z).a1, .i (L0.getD v2 R_iiiiiiAi.z).a2, .i (L0.getD v2 R_iiiiiiAi.z).a3, .i (L0.getD v2 R_iiiiiiAi.z).a4, .i (L0.getD v2 R_iiiiiiAi.z).a5, (mc E_ii (L0.getD v2 R_iiiiiiAi.z).a6), .i (L0.getD v2 R_iiiiiiAi.z).a7]), true), (Nat.blt v2 L0.length, true), ((v2 : Int) == Int.ofNat v2, true), ((decide ((v2 : Int) < (30 : Int))), true), ((decide ((v2 : Int) < (L0.length : Int))), true)]) rfl (show 1 ∈ Zv (Zgy 1) from by decide +kernel) (fun gv => by kernel_rfl) (Za (beq_iff_eq.2 ((wrap_i64 ltA).trans (by first | rfl | omega))) <| Za (Ze ⟨⟨rfl, ⟨rfl, rfl⟩⟩, by omega, by omega, ltA, by omega, (Zf2 (E := E_iiiiiiAi) (L := v1) (M := ([(⟨(L0.getD v2 R_iiiiiiAi.z).a0, (L0.getD v2 R_iiiiiiAi.z).a1, (L0.getD v2 R_iiiiiiAi.z).a2, (L0.getD v2 R_iiiiiiAi.z).a3, (L0.getD v2 R_iiiiiiAi.z).a4, (L0.getD v2 R_iiiiiiAi.z).a5, ((L0.getD v2 R_iiiiiiAi.z).a6.take 12), (L0.getD v2 R_iiiiiiAi.z).a7⟩ : R_iiiiiiAi)] : List R_iiiiiiAi)) (n := v1.length) (show _ = _ * 8 from rfl) (by omega) (R := (v1 ++ ([(⟨(L0.getD v2 R_iiiiiiAi.z).a0, (L0.getD v2 R_iiiiiiAi.z).a1, (L0.getD v2 R_iiiiiiAi.z).a2, (L0.getD v2 R_iiiiiiAi.z).a3, (L0.getD v2 R_iiiiiiAi.z).a4, (L0.getD v2 R_iiiiiiAi.z).a5, ((L0.getD v2 R_iiiiiiAi.z).a6.take 12), (L0.getD v2 R_iiiiiiAi.z).a7⟩ : R_iiiiiiAi)] : List R_iiiiiiAi))) (by rw [List.take_of_length_le (by omega)]))⟩) <| Za (Ze (Zrn (E := E_ii) (L := (L0.getD v2 R_iiiiiiAi.z).a6) (R := ((L0.getD v2 R_iiiiiiAi.z).a6.take 12)) (l := 0) (h := 12) (size := 2) ltA ltA (by decide) (by simp))) <| oI <| oR <| oY <| Za (Ze (ZcE (E := E_iiiiiiAi) (L := L0) (i := v2) (q := 0) (by omega) (show (0 + (v2 * 8)) = v2 * 8 + 0 from by omega) (show 0 + 8 ≤ 8 from by decide) rfl)) <| oB <| oI <| oY <| oY Zf) rfl (by decide) (by rfl) (fun _ => ⟨rr, ⟨⟨Eq.trans (show (vs 0 0 (v1 ++ ([(⟨(L0.getD v2 R_iiiiiiAi.z).a0, (L0.getD v2 R_iiiiiiAi.z).a1, (L0.getD v2 R_iiiiiiAi.z).a2, (L0.getD v2 R_iiiiiiAi.z).a3, (L0.getD v2 R_iiiiiiAi.z).a4, (L0.getD v2 R_iiiiiiAi.z).a5, ((L0.getD v2 R_iiiiiiAi.z).a6.take 12), (L0.getD v2 R_iiiiiiAi.z).a7⟩ : R_iiiiiiAi)] : List R_iiiiiiAi)).length (v1 ++ ([(⟨(L0.getD v2 R_iiiiiiAi.z).a0, (L0.getD v2 R_iiiiiiAi.z).a1, (L0.getD v2 R_iiiiiiAi.z).a2, (L0.getD v2 R_iiiiiiAi.z).a3, (L0.getD v2 R_iiiiiiAi.z).a4, (L0.getD v2 R_iiiiiiAi.z).a5, ((L0.getD v2 R_iiiiiiAi.z).a6.take 12), (L0.getD v2 R_iiiiiiAi.z).a7⟩ : R_iiiiiiAi)] : List R_iiiiiiAi)).length : Value) = vs 0 0 (v1.length + 1) (v1.length + 1) from (Zdp rfl eqA eqA)) (by rfl), by rfl⟩, ⟨rr, trivial⟩⟩⟩) ⟨(Zi (E := E_iiiiiiAi) (α := R_iiiiiiAi) _ (v1 ++ ([(⟨(L0.getD v2 R_iiiiiiAi.z).a0, (L0.getD v2 R_iiiiiiAi.z).a1, (L0.getD v2 R_iiiiiiAi.z).a2, (L0.getD v2 R_iiiiiiAi.z).a3, (L0.getD v2 R_iiiiiiAi.z).a4, (L0.getD v2 R_iiiiiiAi.z).a5, ((L0.getD v2 R_iiiiiiAi.z).a6.take 12), (L0.getD v2 R_iiiiiiAi.z).a7⟩ : R_iiiiiiAi)] : List R_iiiiiiAi)) _), trivial⟩
    ·
     exact Mach.ok_none
   ·
    refine Mach.ok_ite (fun g3 => ?_) (fun g3 => ?_)
    ·
     exact Mach.ok_next (M := ZaI L0 N) (cd := 1000000) (cm := 0) (y := (.h1m1 ((v1 ++ ([(⟨(L0.getD v2 R_iiiiiiAi.z).a0, (L0.getD v2 R_iiiiiiAi.z).a1, (L0.getD v2 R_iiiiiiAi.z).a2, (L0.getD v2 R_iiiiiiAi.z).a3, (L0.getD v2 R_iiiiiiAi.z).a4, (L0.getD v2 R_iiiiiiAi.z).a5, (L0.getD v2 R_iiiiiiAi.z).a6, (L0.getD v2 R_iiiiiiAi.z).a7⟩ : R_iiiiiiAi)] : List R_iiiiiiAi))) ((v2 + 1)) : Z8)) (fu := 4000) (orc := (Zm [(0, true), (1, true), (2, false)] [(0, (((v2 + 1) : Nat) : Int))] [(0, v2)] [(0, [.i (L0.getD v2 R_iiiiiiAi.z).a0, .i (L0.getD v2 R_iiiiiiAi.z).a1, .i (L0.getD v2 R_iiiiiiAi.z).a2, .i (L0.getD v2 R_iiiiiiAi.z).a3, .i (L0.getD v2 R_iiiiiiAi.z).a4, .i (L0.getD v2 R_iiiiiiAi.z).a5, (mc E_ii (L0.getD v2 R_iiiiiiAi.z).a6), .i (L0.getD v2 R_iiiiiiAi.z).a7])] [(1, .ap 1 [vi (L0.getD v2 R_iiiiiiAi.z).a0, vi (L0.getD v2 R_iiiiiiAi.z).a1, vi (L0.getD v2 R_iiiiiiAi.z).a2, vi (L0.getD v2 R_iiiiiiAi.z).a3, vi (L0.getD v2 R_iiiiiiAi.z).a4, vi (L0.getD v2 R_iiiiiiAi.z).a5, ms E_ii (L0.getD v2 R_iiiiiiAi.z).a6, vi (L0.getD v2 R_iiiiiiAi.z).a7] (Zb E_iiiiiiAi (v1 ++ ([(⟨(L0.getD v2 R_iiiiiiAi.z).a0, (L0.getD v2 R_iiiiiiAi.z).a1, (L0.getD v2 R_iiiiiiAi.z).a2, (L0.getD v2 R_iiiiiiAi.z).a3, (L0.getD v2 R_iiiiiiAi.z).a4, (L0.getD v2 R_iiiiiiAi.z).a5, (L0.getD v2 R_iiiiiiAi.z).a6, (L0.getD v2 R_iiiiiiAi.z).a7⟩ : R_iiiiiiAi)] : List R_iiiiiiAi))))])) (live := [4]) (tv := fun _ => [some (ms E_iiiiiiAi L0), some (vs 4 0 (v1.length + 1) (v1.length + 1)), some (vi (((v2 + 1) : Nat) : Int))]) (bl := [some (.cells (Zb E_iiiiiiAi (v1 ++ ([(⟨(L0.getD v2 R_iiiiiiAi.z).a0, (L0.getD v2 R_iiiiiiAi.z).a1, (L0.getD v2 R_iiiiiiAi.z).a2, (L0.getD v2 R_iiiiiiAi.z).a3, (L0.getD v2 R_iiiiiiAi.z).a4, (L0.getD v2 R_iiiiiiAi.z).a5, (L0.getD v2 R_iiiiiiAi.z).a6, (L0.getD v2 R_iiiiiiAi.z).a7⟩ : R_iiiiiiAi)] : List R_iiiiiiAi))) 27)]) (ob := [((IntKind.i64.wrap ((v2 : Int) + (1 : Int))) == (((v2 + 1) : Nat) : Int), true), (dP ((1 = 1 ∧ Zl (1 * 8) (List.drop 0 [vi (L0.getD v2 R_iiiiiiAi.z).a0, vi (L0.getD v2 R_iiiiiiAi.z).a1, vi (L0.getD v2 R_iiiiiiAi.z).a2, vi (L0.getD v2 R_iiiiiiAi.z).a3, vi (L0.getD v2 R_iiiiiiAi.z).a4, vi (L0.getD v2 R_iiiiiiAi.z).a5, ms E_ii (L0.getD v2 R_iiiiiiAi.z).a6, vi (L0.getD v2 R_iiiiiiAi.z).a7]) = some [vi (L0.getD v2 R_iiiiiiAi.z).a0, vi (L0.getD v2 R_iiiiiiAi.z).a1, vi (L0.getD v2 R_iiiiiiAi.z).a2, vi (L0.getD v2 R_iiiiiiAi.z).a3, vi (L0.getD v2 R_iiiiiiAi.z).a4, vi (L0.getD v2 R_iiiiiiAi.z).a5, ms E_ii (L0.getD v2 R_iiiiiiAi.z).a6, vi (L0.getD v2 R_iiiiiiAi.z).a7] ∧ Zn Za5 [vi (L0.getD v2 R_iiiiiiAi.z).a0, vi (L0.getD v2 R_iiiiiiAi.z).a1, vi (L0.getD v2 R_iiiiiiAi.z).a2, vi (L0.getD v2 R_iiiiiiAi.z).a3, vi (L0.getD v2 R_iiiiiiAi.z).a4, vi (L0.getD v2 R_iiiiiiAi.z).a5, ms E_ii (L0.getD v2 R_iiiiiiAi.z).a6, vi (L0.getD v2 R_iiiiiiAi.z).a7] = true) ∧ 0 < 1 ∧ 1 ≤ 100000 ∧ v1.length < v1.length + 1 ∧ v1.length ≤ 100000 ∧ v1.length * 8 ≤ (List.length (Zb E_iiiiiiAi v1)) ∧ List.take (v1.length * 8) (Zb E_iiiiiiAi v1) ++ [vi (L0.getD v2 R_iiiiiiAi.z).a0, vi (L0.getD v2 R_iiiiiiAi.z).a1, vi (L0.getD v2 R_iiiiiiAi.z).a2, vi (L0.getD v2 R_iiiiiiAi.z).a3, vi (L0.getD v2 R_iiiiiiAi.z).a4, vi (L0.getD v2 R_iiiiiiAi.z).a5, ms E_ii (L0.getD v2 R_iiiiiiAi.z).a6, vi (L0.getD v2 R_iiiiiiAi.z).a7] = (Zb E_iiiiiiAi (v1 ++ ([(⟨(L0.getD v2 R_iiiiiiAi.z).a0, (L0.getD v2 R_iiiiiiAi.z).a1, (L0.getD v2 R_iiiiiiAi.z).a2, (L0.getD v2 R_iiiiiiAi.z).a3, (L0.getD v2 R_iiiiiiAi.z).a4, (L0.getD v2 R_iiiiiiAi.z).a5, (L0.getD v2 R_iiiiiiAi.z).a6, (L0.getD v2 R_iiiiiiAi.z).a7⟩ : R_iiiiiiAi)] : List R_iiiiiiAi)))), true), ((decide ((((L0.getD v2 R_iiiiiiAi.z).a6.length : Nat) : Int) > (12 : Int))), false), (dP (Zao (code (ZU E_iiiiiiAi L0)) (0 + (v2 * 8)) 8 = some [.i (L0.getD v2 R_iiiiiiAi.z).a0, .i (L0.getD v2 R_iiiiiiAi.z).a1, .i (L0.getD v2 R_iiiiiiAi.z).a2, .i (L0.getD v2 R_iiiiiiAi.z).a3, .i (L0.getD v2 R_iiiiiiAi.z).a4, .i (L0.getD v2 R_iiiiiiAi.z).a5, (mc E_ii (L0.getD v2 R_iiiiiiAi.z).a6), .i (L0.getD v2 R_iiiiiiAi.z).a7]), true), (Nat.blt v2 L0.length, true), ((v2 : Int) == Int.ofNat v2, true), ((decide ((v2 : Int) < (30 : Int))), true), ((decide ((v2 : Int) < (L0.length : Int))), true)]) rfl (show 1 ∈ Zv (Zgy 1) from by decide +kernel) (fun gv => by kernel_rfl) (Za (beq_iff_eq.2 ((wrap_i64 ltA).trans (by first | rfl | omega))) <| Za (Ze ⟨⟨rfl, ⟨rfl, rfl⟩⟩, by omega, by omega, ltA, by omega, (Zf2 (E := E_iiiiiiAi) (L := v1) (M := ([(⟨(L0.getD v2 R_iiiiiiAi.z).a0, (L0.getD v2 R_iiiiiiAi.z).a1, (L0.getD v2 R_iiiiiiAi.z).a2, (L0.getD v2 R_iiiiiiAi.z).a3, (L0.getD v2 R_iiiiiiAi.z).a4, (L0.getD v2 R_iiiiiiAi.z).a5, (L0.getD v2 R_iiiiiiAi.z).a6, (L0.getD v2 R_iiiiiiAi.z).a7⟩ : R_iiiiiiAi)] : List R_iiiiiiAi)) (n := v1.length) (show _ = _ * 8 from rfl) (by omega) (R := (v1 ++ ([(⟨(L0.getD v2 R_iiiiiiAi.z).a0, (L0.getD v2 R_iiiiiiAi.z).a1, (L0.getD v2 R_iiiiiiAi.z).a2, (L0.getD v2 R_iiiiiiAi.z).a3, (L0.getD v2 R_iiiiiiAi.z).a4, (L0.getD v2 R_iiiiiiAi.z).a5, (L0.getD v2 R_iiiiiiAi.z).a6, (L0.getD v2 R_iiiiiiAi.z).a7⟩ : R_iiiiiiAi)] : List R_iiiiiiAi))) (by rw [List.take_of_length_le (by omega)]))⟩) <| oN <| Za (Ze (ZcE (E := E_iiiiiiAi) (L := L0) (i := v2) (q := 0) (by omega) (show (0 + (v2 * 8)) = v2 * 8 + 0 from by omega) (show 0 + 8 ≤ 8 from by decide) rfl)) <| oB <| oI <| oY <| oY Zf) rfl (by decide) (by rfl) (fun _ => ⟨rr, ⟨⟨Eq.trans (show (vs 0 0 (v1 ++ ([(⟨(L0.getD v2 R_iiiiiiAi.z).a0, (L0.getD v2 R_iiiiiiAi.z).a1, (L0.getD v2 R_iiiiiiAi.z).a2, (L0.getD v2 R_iiiiiiAi.z).a3, (L0.getD v2 R_iiiiiiAi.z).a4, (L0.getD v2 R_iiiiiiAi.z).a5, (L0.getD v2 R_iiiiiiAi.z).a6, (L0.getD v2 R_iiiiiiAi.z).a7⟩ : R_iiiiiiAi)] : List R_iiiiiiAi)).length (v1 ++ ([(⟨(L0.getD v2 R_iiiiiiAi.z).a0, (L0.getD v2 R_iiiiiiAi.z).a1, (L0.getD v2 R_iiiiiiAi.z).a2, (L0.getD v2 R_iiiiiiAi.z).a3, (L0.getD v2 R_iiiiiiAi.z).a4, (L0.getD v2 R_iiiiiiAi.z).a5, (L0.getD v2 R_iiiiiiAi.z).a6, (L0.getD v2 R_iiiiiiAi.z).a7⟩ : R_iiiiiiAi)] : List R_iiiiiiAi)).length : Value) = vs 0 0 (v1.length + 1) (v1.length + 1) from (Zdp rfl eqA eqA)) (by rfl), by rfl⟩, ⟨rr, trivial⟩⟩⟩) ⟨(Zi (E := E_iiiiiiAi) (α := R_iiiiiiAi) _ (v1 ++ ([(⟨(L0.getD v2 R_iiiiiiAi.z).a0, (L0.getD v2 R_iiiiiiAi.z).a1, (L0.getD v2 R_iiiiiiAi.z).a2, (L0.getD v2 R_iiiiiiAi.z).a3, (L0.getD v2 R_iiiiiiAi.z).a4, (L0.getD v2 R_iiiiiiAi.z).a5, (L0.getD v2 R_iiiiiiAi.z).a6, (L0.getD v2 R_iiiiiiAi.z).a7⟩ : R_iiiiiiAi)] : List R_iiiiiiAi)) _), trivial⟩
    ·
     exact Mach.ok_none
  ·
   exact Mach.ok_fin (M := ZaI L0 N) (cd := 1000000) (cm := 0) (r := (.r1 (v1) : ZaG)) (fu := 4000) (orc := (Zm [(0, true), (1, false)] [] [] [] [])) (live := [0]) (u := vs 0 0 v1.length v1.length) (bl := [some (.cells (Zb E_iiiiiiAi v1) 27)]) (ob := [((decide ((v2 : Int) < (30 : Int))), false), ((decide ((v2 : Int) < (L0.length : Int))), true)]) (fun gv => by kernel_rfl) (oN <| oY Zf) rfl (by decide) (by rfl) rr ⟨(Zi (E := E_iiiiiiAi) (α := R_iiiiiiAi) _ v1 _), trivial⟩
 ·
  exact Mach.ok_fin (M := ZaI L0 N) (cd := 1000000) (cm := 0) (r := (.r1 (v1) : ZaG)) (fu := 4000) (orc := (Zm [(0, false)] [] [] [] [])) (live := [0]) (u := vs 0 0 v1.length v1.length) (bl := [some (.cells (Zb E_iiiiiiAi v1) 27)]) (ob := [((decide ((v2 : Int) < (L0.length : Int))), false)]) (fun gv => by kernel_rfl) (oN Zf) rfl (by decide) (by rfl) rr ⟨(Zi (E := E_iiiiiiAi) (α := R_iiiiiiAi) _ v1 _), trivial⟩

theorem ZnB (L0 : List R_iiiiiiAi) (N : Nat) : (ZaI L0 N).Enter Tryz.prog Zp #[ms E_iiiiiiAi L0] (Zhu L0 N) := by
 unfold Zhu
 exact Mach.en_head (bK := Zdv 1) (M := ZaI L0 N) (cd := 1000000) (cm := 0) (y := (.h1m0 : Z8)) (fu := 4000) (orc := (Zm [] [] [] [] [])) (live := []) (tv := [some (ms E_iiiiiiAi L0), some (vn), some (vq)]) (bl := []) (ob := []) rfl rfl (show Zv (Zdv 1).2 = [] from rfl) (by kernel_rfl) Zf rfl (by decide) (by rfl) ⟨rr, ⟨rr, ⟨rr, trivial⟩⟩⟩ trivial

theorem ZhH (L0 : List R_iiiiiiAi) (N : Nat) (r : ZaG) (h : ZeQ L0 N = some r) : LSpec Tryz.prog 5 #[ms E_iiiiiiAi L0] [] (Zlq L0 r) (Zkg L0 r) :=
 Mach.spec ZbX (ZaI L0 N) Tryz.func5 (by kernel_rfl) (by kernel_rfl) (fun x => by cases x <;> exact Zad _ rfl) (fun r => by cases r <;> exact Zad _ rfl) (fun x => by
  cases x with
  | h1m0 => exact fun _ => (show ¬ (1 ∈ Zv (Zdv 1).2) from by decide +kernel)
  | h1m1 _ _ => exact fun _ => (show ¬ (1 ∈ Zv (Zdv 1).2) from by decide +kernel)
  ) (fun x => (show (ZaI L0 N).Ok Tryz.prog Zp x (Zbj L0 N x) from by
  cases x with
  | h1m0 => exact Zlr L0 N
  | h1m1 v1 v2 => exact Zls L0 v1 v2 N
  )) (ZnB L0 N) (n := N) h

noncomputable def Zhv (L0 : List R_iiiiiiAi) (n : Nat) : Zbh := .call [] (vn) [] 0
def Zf9 (A : Array Value) (L0 : List R_iiiiiiAi) (n : Nat) : Prop := Z3 Tryz.prog 5 A [] (vn) [] n 0

theorem Zhw (A : Array Value) (L0 : List R_iiiiiiAi) (N : Nat) (h : ZeQ L0 N = some (.r0)) (n : Nat) (hA : A = #[ms E_iiiiiiAi L0]) (hnd : ([] : List Nat).Nodup) (hlt : ∀ k ∈ ([] : List Nat), k < n) : Zf9 A L0  n :=
 Zal hA (LSpec.callL (show LSpec Tryz.prog 5 #[ms E_iiiiiiAi L0] [] (vn) [] from ZhH L0 N _ h) [] n [] rfl hnd hlt (show 0 ≤ 0 from by decide) (show ∀ j ∈ ([] : List Nat), j < 0 from by decide) (by rfl) trivial (by rfl) trivial trivial rfl rfl rfl rfl rfl)

noncomputable def ZV (L0 w0 : List R_iiiiiiAi) (n : Nat) : Zbh := .call [] (vs n 0 w0.length w0.length) [(n, some (.cells (Zb E_iiiiiiAi w0) 27))] 1
def ZM (A : Array Value) (L0 w0 : List R_iiiiiiAi) (n : Nat) : Prop := Z3 Tryz.prog 5 A [] (vs n 0 w0.length w0.length) [(n, some (.cells (Zb E_iiiiiiAi w0) 27))] n 1

theorem ZW (A : Array Value) (L0 w0 : List R_iiiiiiAi) (N : Nat) (h : ZeQ L0 N = some (.r1 w0)) (n : Nat) (hA : A = #[ms E_iiiiiiAi L0]) (hnd : ([] : List Nat).Nodup) (hlt : ∀ k ∈ ([] : List Nat), k < n) : ZM A L0 w0  n :=
 Zal hA (LSpec.callL (show LSpec Tryz.prog 5 #[ms E_iiiiiiAi L0] [] (vs 0 0 w0.length w0.length) [some (.cells (Zb E_iiiiiiAi w0) 27)] from ZhH L0 N _ h) [] n [0] rfl hnd hlt (show 0 ≤ 1 from by decide) (show ∀ j ∈ ([0] : List Nat), j < 1 from by decide) (by rfl) trivial (by rfl) ⟨(Zy _ _ _), trivial⟩ ⟨(by decide), trivial⟩ rfl rfl rfl rfl (ZaS (ZaT rfl (ZhF (Za9 _ _ _))) rfl))

noncomputable def Zi3  : ZaY → Value
 | .r0 => vT
noncomputable def ZhI  : ZaY → List (Option AObj)
 | .r0 => []

def ZlK : Zaq → Nat
 | .h1m0 => 1
noncomputable def Zmw  : Zaq → List (Nat × Value)
 | .h1m0 => [(3, Value.map (some 0)), (4, Value.map (some 1)), (15, vn), (16, vq), (17, vq)]
noncomputable def Zmx  : Zaq → List (Option AObj)
 | .h1m0 => [some (.ro (ZbE ([] : List R_ii)) true), some (.ro (ZbE ([] : List R_ii)) true)]

noncomputable def ZeB : Nat → Code × List Zap
 | 1 => ZaU [1, 1, 1, 0, 1, 3] (ZbW Tryz.f13) []
 | _ => (.skip, [])
def ZlL : Nat → Bool
 | 1 => true
 | _ => true
noncomputable def Zcc  (N : Nat) : Mach := ⟨Tryz.f13, [], Zaq, ZaY, ZbM  N, ZlK, ZeB, ZlL, Zmw , Zmx , Zi3 , ZhI ⟩

theorem Zjn  (N : Nat) : (Zcc  N).Ok Tryz.prog Zp (.h1m0 : Zaq) (ZbM  N (.h1m0 : Zaq)) := by
 show (Zcc  N).Ok Tryz.prog Zp (.h1m0 : Zaq) (Zel  N)
 unfold Zel
 exact Mach.ok_fin (M := Zcc  N) (cd := 1000000) (cm := 0) (r := (.r0 : ZaY)) (fu := 4000) (orc := (Zm [] [] [] [] [])) (live := []) (u := vT) (bl := []) (ob := []) (fun gv => by kernel_rfl) Zf rfl (by decide) (by rfl) rr trivial

theorem Zlt  (N : Nat) : (Zcc  N).Enter Tryz.prog Zp #[vn] (Zf3  N) := by
 unfold Zf3
 exact Mach.en_head (bK := ZeB 1) (M := Zcc  N) (cd := 1000000) (cm := 0) (y := (.h1m0 : Zaq)) (fu := 4000) (orc := (Zm [] [] [] [] [])) (live := [0, 1]) (tv := [some (Value.map (some 0)), some (Value.map (some 1)), some (vn), some (vq), some (vq)]) (bl := [some (.ro (ZbE ([] : List R_ii)) true), some (.ro (ZbE ([] : List R_ii)) true)]) (ob := []) rfl rfl (show Zv (ZeB 1).2 = [] from rfl) (by kernel_rfl) Zf rfl (by decide) (by rfl) ⟨rr, ⟨rr, ⟨rr, ⟨rr, ⟨rr, trivial⟩⟩⟩⟩⟩ ⟨(show ZbE ([] : List R_ii) = ZbE ([] : List R_ii) from rfl), ⟨(show ZbE ([] : List R_ii) = ZbE ([] : List R_ii) from rfl), trivial⟩⟩

theorem ZjM  (N : Nat) (r : ZaY) (h : Zfh  N = some r) : LSpec Tryz.prog 13 #[vn] [] (Zi3  r) (ZhI  r) :=
 Mach.spec ZbX (Zcc  N) Tryz.func13 (by kernel_rfl) (by kernel_rfl) (fun x => by cases x <;> exact Zad _ rfl) (fun r => by cases r <;> exact Zad _ rfl) (fun x => by
  cases x with
  | h1m0 => exact fun _ => (show ¬ (1 ∈ Zv (ZeB 1).2) from by decide +kernel)
  ) (fun x => (show (Zcc  N).Ok Tryz.prog Zp x (ZbM  N x) from by
  cases x with
  | h1m0 => exact Zjn  N
  )) (Zlt  N) (n := N) h

noncomputable def ZlM  (n : Nat) : Zbh := .call [] (vT) [] 0
def ZhJ (A : Array Value)  (n : Nat) : Prop := Z3 Tryz.prog 13 A [] (vT) [] n 0

theorem ZlN (A : Array Value)  (N : Nat) (h : Zfh  N = some (.r0)) (n : Nat) (hA : A = #[vn]) (hnd : ([] : List Nat).Nodup) (hlt : ∀ k ∈ ([] : List Nat), k < n) : ZhJ A   n :=
 Zal hA (LSpec.callL (show LSpec Tryz.prog 13 #[vn] [] (vT) [] from ZjM  N _ h) [] n [] rfl hnd hlt (show 0 ≤ 0 from by decide) (show ∀ j ∈ ([] : List Nat), j < 0 from by decide) (by rfl) trivial (by rfl) trivial trivial rfl rfl rfl rfl rfl)

noncomputable def Zer  : Zab → Value
 | .r0 => ms E_iiiiiiAi ([] : List R_iiiiiiAi)
noncomputable def Zeh  : Zab → List (Option AObj)
 | .r0 => []

theorem ZdC  (N : Nat) (r : Zab) (h : ZaE  N = some r) : LSpec Tryz.prog 14 #[vn] [] (Zer  r) (Zeh  r) := by
 cases r
 exact Zqn (E := E_iiiiiiAi) Zk5

noncomputable def Zei  (n : Nat) : Zbh := .call [] (ms E_iiiiiiAi ([] : List R_iiiiiiAi)) [] 0
def ZbZ (A : Array Value)  (n : Nat) : Prop := Z3 Tryz.prog 14 A [] (ms E_iiiiiiAi ([] : List R_iiiiiiAi)) [] n 0

theorem Zej (A : Array Value)  (N : Nat) (h : ZaE  N = some (.r0)) (n : Nat) (hA : A = #[vn]) (hnd : ([] : List Nat).Nodup) (hlt : ∀ k ∈ ([] : List Nat), k < n) : ZbZ A   n :=
 Zal hA (LSpec.callL (show LSpec Tryz.prog 14 #[vn] [] (ms E_iiiiiiAi ([] : List R_iiiiiiAi)) [] from ZdC  N _ h) [] n [] rfl hnd hlt (show 0 ≤ 0 from by decide) (show ∀ j ∈ ([] : List Nat), j < 0 from by decide) (by rfl) trivial (by rfl) trivial trivial rfl rfl rfl rfl rfl)

noncomputable def ZdJ (L0 : List R_iiiiiiAi) : ZT → Value
 | .r0 => vtt
noncomputable def ZdD (L0 : List R_iiiiiiAi) : ZT → List (Option AObj)
 | .r0 => []

theorem Zde (L0 : List R_iiiiiiAi) (N : Nat) (r : ZT) (h : ZC L0 N = some r) : LSpec Tryz.prog 15 #[ms E_iiiiiiAi L0, Value.func (.func 16) #[] #[]] [] (ZdJ L0 r) (ZdD L0 r) := by
 unfold ZC at h
 by_cases h1 : L0.length = 0
 · rw [if_pos h1] at h
   obtain rfl := (Option.some.inj h).symm
   exact Zqo (E := E_iiiiiiAi) ZoL (List.length_eq_zero_iff.1 h1) rfl
 · rw [if_neg h1] at h; cases h

noncomputable def ZbH (L0 : List R_iiiiiiAi) (n : Nat) : Zbh := .call [] (vtt) [] 0
def ZaO (A : Array Value) (L0 : List R_iiiiiiAi) (n : Nat) : Prop := Z3 Tryz.prog 15 A [] (vtt) [] n 0

theorem ZbI (A : Array Value) (L0 : List R_iiiiiiAi) (N : Nat) (h : ZC L0 N = some (.r0)) (n : Nat) (hA : A = #[ms E_iiiiiiAi L0, Value.func (.func 16) #[] #[]]) (hnd : ([] : List Nat).Nodup) (hlt : ∀ k ∈ ([] : List Nat), k < n) : ZaO A L0  n :=
 Zal hA (LSpec.callL (show LSpec Tryz.prog 15 #[ms E_iiiiiiAi L0, Value.func (.func 16) #[] #[]] [] (vtt) [] from Zde L0 N _ h) [] n [] rfl hnd hlt (show 0 ≤ 0 from by decide) (show ∀ j ∈ ([] : List Nat), j < 0 from by decide) (by rfl) trivial (by rfl) trivial trivial rfl rfl rfl rfl rfl)

noncomputable def Zki  : Zbv → Value
 | .r0 => Value.tuple #[ms E_iiiiiiAi ([] : List R_iiiiiiAi), vq]
noncomputable def Zjo  : Zbv → List (Option AObj)
 | .r0 => []

def ZnC : ZaL → Nat
 | .h1m0 => 1
noncomputable def Zoq  : ZaL → List (Nat × Value)
 | .h1m0 => [(4, ms E_iiiiiiAi ([] : List R_iiiiiiAi)), (14, vq), (15, vq)]
noncomputable def Zor  : ZaL → List (Option AObj)
 | .h1m0 => []

noncomputable def ZfA : Nat → Code × List Zap
 | 1 => ZaU [1, 1, 1, 1, 0, 1, 3] (ZbW Tryz.f6) []
 | _ => (.skip, [])
def ZnD : Nat → Bool
 | 1 => true
 | _ => true
noncomputable def ZcG  (N : Nat) : Mach := ⟨Tryz.f6, [], ZaL, Zbv, ZcY  N, ZnC, ZfA, ZnD, Zoq , Zor , Zki , Zjo ⟩

theorem Zk6  (N : Nat) : (ZcG  N).Ok Tryz.prog Zp (.h1m0 : ZaL) (ZcY  N (.h1m0 : ZaL)) := by
 show (ZcG  N).Ok Tryz.prog Zp (.h1m0 : ZaL) (Zfi  N)
 unfold Zfi
 exact Mach.ok_fin (M := ZcG  N) (cd := 1000000) (cm := 0) (r := (.r0 : Zbv)) (fu := 4000) (orc := (Zm [] [] [] [] [])) (live := []) (u := Value.tuple #[ms E_iiiiiiAi ([] : List R_iiiiiiAi), vq]) (bl := []) (ob := []) (fun gv => by kernel_rfl) Zf rfl (by decide) (by rfl) rr trivial

theorem Zmy  (N : Nat) : (ZcG  N).Enter Tryz.prog Zp #[vn] (ZdX  N) := by
 unfold ZdX
 refine Mach.en_bind (fun z0 c0 => ?_)
 cases z0 with
 | r0 =>
  refine Mach.en_bind (fun z1 c1 => ?_)
  cases z1 with
  | r0 =>
   refine Mach.en_bind (fun z2 c2 => ?_)
   cases z2 with
   | r0 =>
    exact Mach.en_head (bK := ZfA 1) (M := ZcG  N) (cd := 1000000) (cm := 0) (y := (.h1m0 : ZaL)) (fu := 4000) (orc := (Zm [] [] [] [] [(0, (ZlM     0)), (1, (Zei     0)), (2, (ZbH (([] : List R_iiiiiiAi))    0))])) (live := []) (tv := [some (ms E_iiiiiiAi ([] : List R_iiiiiiAi)), some (vq), some (vq)]) (bl := []) (ob := [(dP (ZaO #[ms E_iiiiiiAi ([] : List R_iiiiiiAi), Value.func (.func 16) #[] #[]] (([] : List R_iiiiiiAi))    0), true), (dP (ZbZ #[vn]     0), true), (dP (ZhJ #[vn]     0), true)]) rfl rfl (show Zv (ZfA 1).2 = [] from rfl) (by kernel_rfl) (Za (Ze (ZbI #[ms E_iiiiiiAi ([] : List R_iiiiiiAi), Value.func (.func 16) #[] #[]] (([] : List R_iiiiiiAi))   N c2  0 rfl (by decide) (by decide))) <| Za (Ze (Zej #[vn]    N c1  0 rfl (by decide) (by decide))) <| Za (Ze (ZlN #[vn]    N c0  0 rfl (by decide) (by decide))) Zf) rfl (by decide) (by rfl) ⟨rr, ⟨rr, ⟨rr, trivial⟩⟩⟩ trivial

theorem Zlu  (N : Nat) (r : Zbv) (h : Zgv  N = some r) : LSpec Tryz.prog 6 #[vn] [] (Zki  r) (Zjo  r) :=
 Mach.spec ZbX (ZcG  N) Tryz.func6 (by kernel_rfl) (by kernel_rfl) (fun x => by cases x <;> exact Zad _ rfl) (fun r => by cases r <;> exact Zad _ rfl) (fun x => by
  cases x with
  | h1m0 => exact fun _ => (show ¬ (1 ∈ Zv (ZfA 1).2) from by decide +kernel)
  ) (fun x => (show (ZcG  N).Ok Tryz.prog Zp x (ZcY  N x) from by
  cases x with
  | h1m0 => exact Zk6  N
  )) (Zmy  N) (n := N) h

noncomputable def ZgN  (n : Nat) : Zbh := .call [] (Value.tuple #[ms E_iiiiiiAi ([] : List R_iiiiiiAi), vq]) [] 0
def Zfp (A : Array Value)  (n : Nat) : Prop := Z3 Tryz.prog 6 A [] (Value.tuple #[ms E_iiiiiiAi ([] : List R_iiiiiiAi), vq]) [] n 0

theorem ZgO (A : Array Value)  (N : Nat) (h : Zgv  N = some (.r0)) (n : Nat) (hA : A = #[vn]) (hnd : ([] : List Nat).Nodup) (hlt : ∀ k ∈ ([] : List Nat), k < n) : Zfp A   n :=
 Zal hA (LSpec.callL (show LSpec Tryz.prog 6 #[vn] [] (Value.tuple #[ms E_iiiiiiAi ([] : List R_iiiiiiAi), vq]) [] from Zlu  N _ h) [] n [] rfl hnd hlt (show 0 ≤ 0 from by decide) (show ∀ j ∈ ([] : List Nat), j < 0 from by decide) (by rfl) trivial (by rfl) trivial trivial rfl rfl rfl rfl rfl)

noncomputable def Zkj  : Zbw → Value
 | .r0 => Value.tuple #[vn, vq]
noncomputable def Zjp  : Zbw → List (Option AObj)
 | .r0 => []

def ZnE : ZaM → Nat
 | .h1m0 => 1
noncomputable def Zos  : ZaM → List (Nat × Value)
 | .h1m0 => [(0, vn), (4, vn), (5, vq)]
noncomputable def Zot  : ZaM → List (Option AObj)
 | .h1m0 => []

noncomputable def ZfB : Nat → Code × List Zap
 | 1 => ZaU [1, 1, 0, 1, 3] (ZbW Tryz.f7) []
 | _ => (.skip, [])
def ZnF : Nat → Bool
 | 1 => true
 | _ => true
noncomputable def ZcH  (N : Nat) : Mach := ⟨Tryz.f7, [], ZaM, Zbw, Zco  N, ZnE, ZfB, ZnF, Zos , Zot , Zkj , Zjp ⟩

theorem Zk7  (N : Nat) : (ZcH  N).Ok Tryz.prog Zp (.h1m0 : ZaM) (Zco  N (.h1m0 : ZaM)) := by
 show (ZcH  N).Ok Tryz.prog Zp (.h1m0 : ZaM) (Zfj  N)
 unfold Zfj
 exact Mach.ok_fin (M := ZcH  N) (cd := 1000000) (cm := 0) (r := (.r0 : Zbw)) (fu := 4000) (orc := (Zm [] [] [] [] [])) (live := []) (u := Value.tuple #[vn, vq]) (bl := []) (ob := []) (fun gv => by kernel_rfl) Zf rfl (by decide) (by rfl) rr trivial

theorem Zmz  (N : Nat) : (ZcH  N).Enter Tryz.prog Zp #[vn] (ZgK  N) := by
 unfold ZgK
 exact Mach.en_head (bK := ZfB 1) (M := ZcH  N) (cd := 1000000) (cm := 0) (y := (.h1m0 : ZaM)) (fu := 4000) (orc := (Zm [] [] [] [] [])) (live := []) (tv := [some (vn), some (vn), some (vq)]) (bl := []) (ob := []) rfl rfl (show Zv (ZfB 1).2 = [] from rfl) (by kernel_rfl) Zf rfl (by decide) (by rfl) ⟨rr, ⟨rr, ⟨rr, trivial⟩⟩⟩ trivial

theorem Zlv  (N : Nat) (r : Zbw) (h : Zgw  N = some r) : LSpec Tryz.prog 7 #[vn] [] (Zkj  r) (Zjp  r) :=
 Mach.spec ZbX (ZcH  N) Tryz.func7 (by kernel_rfl) (by kernel_rfl) (fun x => by cases x <;> exact Zad _ rfl) (fun r => by cases r <;> exact Zad _ rfl) (fun x => by
  cases x with
  | h1m0 => exact fun _ => (show ¬ (1 ∈ Zv (ZfB 1).2) from by decide +kernel)
  ) (fun x => (show (ZcH  N).Ok Tryz.prog Zp x (Zco  N x) from by
  cases x with
  | h1m0 => exact Zk7  N
  )) (Zmz  N) (n := N) h

noncomputable def ZgP  (n : Nat) : Zbh := .call [] (Value.tuple #[vn, vq]) [] 0
def Zfq (A : Array Value)  (n : Nat) : Prop := Z3 Tryz.prog 7 A [] (Value.tuple #[vn, vq]) [] n 0

theorem ZgQ (A : Array Value)  (N : Nat) (h : Zgw  N = some (.r0)) (n : Nat) (hA : A = #[vn]) (hnd : ([] : List Nat).Nodup) (hlt : ∀ k ∈ ([] : List Nat), k < n) : Zfq A   n :=
 Zal hA (LSpec.callL (show LSpec Tryz.prog 7 #[vn] [] (Value.tuple #[vn, vq]) [] from Zlv  N _ h) [] n [] rfl hnd hlt (show 0 ≤ 0 from by decide) (show ∀ j ∈ ([] : List Nat), j < 0 from by decide) (by rfl) trivial (by rfl) trivial trivial rfl rfl rfl rfl rfl)

noncomputable def ZhK (L0 : List R_iiiiiiAi) : Zar → Value
 | .r0 w0 => Value.bool w0
noncomputable def Zhk (L0 : List R_iiiiiiAi) : Zar → List (Option AObj)
 | .r0 w0 => []

def Zlw : Zaf → Nat
 | .h1m0 => 1
noncomputable def ZlO (L0 : List R_iiiiiiAi) : Zaf → List (Nat × Value)
 | .h1m0 => [(0, ms E_iiiiiiAi L0), (1, vn), (5, vq)]
noncomputable def ZlP (L0 : List R_iiiiiiAi) : Zaf → List (Option AObj)
 | .h1m0 => []

noncomputable def Zek : Nat → Code × List Zap
 | 1 => ZaU [1, 1, 0, 1, 3] (ZbW Tryz.f8) []
 | _ => (.skip, [])
def Zlx : Nat → Bool
 | 1 => true
 | _ => true
noncomputable def Zbp (L0 : List R_iiiiiiAi) (N : Nat) : Mach := ⟨Tryz.f8, [], Zaf, Zar, Zb9 L0 N, Zlw, Zek, Zlx, ZlO L0, ZlP L0, ZhK L0, Zhk L0⟩

theorem Zi8 (L0 : List R_iiiiiiAi) (N : Nat) : (Zbp L0 N).Ok Tryz.prog Zp (.h1m0 : Zaf) (Zb9 L0 N (.h1m0 : Zaf)) := by
 show (Zbp L0 N).Ok Tryz.prog Zp (.h1m0 : Zaf) (ZdY L0 N)
 unfold ZdY
 refine Mach.ok_ite (fun g0 => ?_) (fun g0 => ?_)
 ·
  exact Mach.ok_none
 ·
  exact Mach.ok_fin (M := Zbp L0 N) (cd := 1000000) (cm := 0) (r := (.r0 (true) : Zar)) (fu := 4000) (orc := (Zm [(0, false)] [] [] [] [])) (live := []) (u := vT) (bl := []) (ob := [((decide ((0 : Int) < (L0.length : Int))), false)]) (fun gv => by kernel_rfl) (oN Zf) rfl (by decide) (by rfl) rr trivial

theorem Zk8 (L0 : List R_iiiiiiAi) (N : Nat) : (Zbp L0 N).Enter Tryz.prog Zp #[ms E_iiiiiiAi L0, vn] (Zfk L0 N) := by
 unfold Zfk
 refine Mach.en_ite (fun g0 => ?_) (fun g0 => ?_)
 ·
  exact Mach.en_fin (M := Zbp L0 N) (cd := 1000000) (cm := 0) (r := (.r0 (false) : Zar)) (fu := 4000) (orc := (Zm [(0, true)] [] [] [] [])) (live := []) (u := vf) (bl := []) (ob := [(((L0.length : Int) != (0 : Int)), true)]) (by kernel_rfl) (oD Zf) rfl (by decide) (by rfl) rr trivial
 ·
  exact Mach.en_head (bK := Zek 1) (M := Zbp L0 N) (cd := 1000000) (cm := 0) (y := (.h1m0 : Zaf)) (fu := 4000) (orc := (Zm [(0, false)] [] [] [] [])) (live := []) (tv := [some (ms E_iiiiiiAi L0), some (vn), some (vq)]) (bl := []) (ob := [(((L0.length : Int) != (0 : Int)), false)]) rfl rfl (show Zv (Zek 1).2 = [] from rfl) (by kernel_rfl) (oE Zf) rfl (by decide) (by rfl) ⟨rr, ⟨rr, ⟨rr, trivial⟩⟩⟩ trivial

theorem Zjq (L0 : List R_iiiiiiAi) (N : Nat) (r : Zar) (h : Zd3 L0 N = some r) : LSpec Tryz.prog 8 #[ms E_iiiiiiAi L0, vn] [] (ZhK L0 r) (Zhk L0 r) :=
 Mach.spec ZbX (Zbp L0 N) Tryz.func8 (by kernel_rfl) (by kernel_rfl) (fun x => by cases x <;> exact Zad _ rfl) (fun r => by cases r <;> exact Zad _ rfl) (fun x => by
  cases x with
  | h1m0 => exact fun _ => (show ¬ (1 ∈ Zv (Zek 1).2) from by decide +kernel)
  ) (fun x => (show (Zbp L0 N).Ok Tryz.prog Zp x (Zb9 L0 N x) from by
  cases x with
  | h1m0 => exact Zi8 L0 N
  )) (Zk8 L0 N) (n := N) h

noncomputable def Zb3 (L0 : List R_iiiiiiAi) (w0 : Bool) (n : Nat) : Zbh := .call [] (Value.bool w0) [] 0
def Zbf (A : Array Value) (L0 : List R_iiiiiiAi) (w0 : Bool) (n : Nat) : Prop := Z3 Tryz.prog 8 A [] (Value.bool w0) [] n 0

theorem Zb4 (A : Array Value) (L0 : List R_iiiiiiAi) (w0 : Bool) (N : Nat) (h : Zd3 L0 N = some (.r0 w0)) (n : Nat) (hA : A = #[ms E_iiiiiiAi L0, vn]) (hnd : ([] : List Nat).Nodup) (hlt : ∀ k ∈ ([] : List Nat), k < n) : Zbf A L0 w0  n :=
 Zal hA (LSpec.callL (show LSpec Tryz.prog 8 #[ms E_iiiiiiAi L0, vn] [] (Value.bool w0) [] from Zjq L0 N _ h) [] n [] rfl hnd hlt (show 0 ≤ 0 from by decide) (show ∀ j ∈ ([] : List Nat), j < 0 from by decide) (by rfl) trivial (by rfl) trivial trivial rfl rfl rfl rfl rfl)

noncomputable def Zhl (L0 : List R_iiiiiiAi) : Zr → Value
 | .r0 w1 => Value.bool w1
noncomputable def ZgR (L0 : List R_iiiiiiAi) : Zr → List (Option AObj)
 | .r0 w1 => [some (.cells (Zb E_iiiiiiAi L0) 27)]

def Zk9 : Z5 → Nat
 | .h1m0 v1 v2 v4 => 1
noncomputable def Zly (L0 : List R_iiiiiiAi) : Z5 → List (Nat × Value)
 | .h1m0 v1 v2 v4 => [(3, Value.map (some 1)), (4, Value.map (some 2)), (15, vs 0 0 L0.length L0.length), (16, vi (L0.length : Int)), (17, vi (v4 : Int))]
noncomputable def Zlz (L0 : List R_iiiiiiAi) : Z5 → List (Option AObj)
 | .h1m0 v1 v2 v4 => [some (.cells (Zb E_iiiiiiAi L0) 27), some (.ro (ZbE v1) true), some (.ro (ZbE v2) true)]

noncomputable def Zca : Nat → Code × List Zap
 | 1 => ZaU [1, 1, 1, 0, 1, 3] (ZbW Tryz.f13) []
 | _ => (.skip, [])
def ZgS : Nat → Bool
 | 1 => true
 | _ => true
noncomputable def Zhm (i : Nat) : List Zap := match ZgS i with | true => .rnd i :: (Zca i).2 | false => (Zca i).2

noncomputable def Z2 (L0 : List R_iiiiiiAi) (N : Nat) : Mach := ⟨Tryz.f13, [.cells (Zb E_iiiiiiAi L0) 27], Z5, Zr, Zae L0 N, Zk9, Zca, ZgS, Zly L0, Zlz L0, Zhl L0, ZgR L0⟩

theorem Zir (L0 : List R_iiiiiiAi) (v1 v2 : List R_ii) (v4 N : Nat) : (Z2 L0 N).Ok Tryz.prog Zp (.h1m0 v1 v2 v4 : Z5) (Zae L0 N (.h1m0 v1 v2 v4 : Z5)) := by
 show (Z2 L0 N).Ok Tryz.prog Zp (.h1m0 v1 v2 v4 : Z5) (Zu L0 N v1 v2 v4)
 unfold Zu
 refine Mach.ok_ite (fun g0 => ?_) (fun g0 => ?_)
 ·
  refine Mach.ok_ite (fun g1 => ?_) (fun g1 => ?_)
  ·
   refine Mach.ok_ite (fun g2 => ?_) (fun g2 => ?_)
   ·
    exact Mach.ok_fin (M := Z2 L0 N) (cd := 1000000) (cm := 0) (r := (.r0 (false) : Zr)) (fu := 4000) (orc := (Zm [(0, true), (1, true)] [] [(0, v4)] [(0, [.i (L0.getD v4 R_iiiiiiAi.z).a0, .i (L0.getD v4 R_iiiiiiAi.z).a1, .i (L0.getD v4 R_iiiiiiAi.z).a2, .i (L0.getD v4 R_iiiiiiAi.z).a3, .i (L0.getD v4 R_iiiiiiAi.z).a4, .i (L0.getD v4 R_iiiiiiAi.z).a5, (mc E_ii (L0.getD v4 R_iiiiiiAi.z).a6), .i (L0.getD v4 R_iiiiiiAi.z).a7])] [(1, .lk (some (vi (ZaJ v2 (L0.getD v4 R_iiiiiiAi.z).a1))))])) (live := [0]) (u := vf) (bl := [some (.cells (Zb E_iiiiiiAi L0) 27)]) (ob := [((decide ((L0.getD v4 R_iiiiiiAi.z).a3 < (1 : Int))), true), (dP (Zby .i64 (vi (L0.getD v4 R_iiiiiiAi.z).a1) (ZaB v2) = some (some (vi (ZaJ v2 (L0.getD v4 R_iiiiiiAi.z).a1)))), true), (Z1 (Zl 8 (List.drop (0 + (v4 * 8)) (Zb E_iiiiiiAi L0))) [.i (L0.getD v4 R_iiiiiiAi.z).a0, .i (L0.getD v4 R_iiiiiiAi.z).a1, .i (L0.getD v4 R_iiiiiiAi.z).a2, .i (L0.getD v4 R_iiiiiiAi.z).a3, .i (L0.getD v4 R_iiiiiiAi.z).a4, .i (L0.getD v4 R_iiiiiiAi.z).a5, (mc E_ii (L0.getD v4 R_iiiiiiAi.z).a6), .i (L0.getD v4 R_iiiiiiAi.z).a7], true), (Nat.blt v4 L0.length, true), ((v4 : Int) == Int.ofNat v4, true), ((decide ((v4 : Int) < (L0.length : Int))), true)]) (fun gv => by kernel_rfl) (oY <| Za (Ze (ZeR (by assumption))) <| Za (Zo (E := E_iiiiiiAi) (L := L0) (i := v4) (q := 0) (by omega) (show (0 + (v4 * 8)) = v4 * 8 + 0 from by omega) (show 0 + 8 ≤ 8 from by decide) rfl rfl) <| oB <| oI <| oY Zf) rfl (by decide) (by rfl) rr ⟨(Zi (E := E_iiiiiiAi) (α := R_iiiiiiAi) _ L0 _), trivial⟩
   ·
    refine Mach.ok_ite (fun g3 => ?_) (fun g3 => ?_)
    ·
     exact Mach.ok_fin (M := Z2 L0 N) (cd := 1000000) (cm := 0) (r := (.r0 (false) : Zr)) (fu := 4000) (orc := (Zm [(0, true), (1, false), (2, true)] [] [(0, v4)] [(0, [.i (L0.getD v4 R_iiiiiiAi.z).a0, .i (L0.getD v4 R_iiiiiiAi.z).a1, .i (L0.getD v4 R_iiiiiiAi.z).a2, .i (L0.getD v4 R_iiiiiiAi.z).a3, .i (L0.getD v4 R_iiiiiiAi.z).a4, .i (L0.getD v4 R_iiiiiiAi.z).a5, (mc E_ii (L0.getD v4 R_iiiiiiAi.z).a6), .i (L0.getD v4 R_iiiiiiAi.z).a7])] [(1, .lk (some (vi (ZaJ v2 (L0.getD v4 R_iiiiiiAi.z).a1))))])) (live := [0]) (u := vf) (bl := [some (.cells (Zb E_iiiiiiAi L0) 27)]) (ob := [((decide ((L0.getD v4 R_iiiiiiAi.z).a4 < (L0.getD v4 R_iiiiiiAi.z).a3)), true), ((decide ((L0.getD v4 R_iiiiiiAi.z).a3 < (1 : Int))), false), (dP (Zby .i64 (vi (L0.getD v4 R_iiiiiiAi.z).a1) (ZaB v2) = some (some (vi (ZaJ v2 (L0.getD v4 R_iiiiiiAi.z).a1)))), true), (Z1 (Zl 8 (List.drop (0 + (v4 * 8)) (Zb E_iiiiiiAi L0))) [.i (L0.getD v4 R_iiiiiiAi.z).a0, .i (L0.getD v4 R_iiiiiiAi.z).a1, .i (L0.getD v4 R_iiiiiiAi.z).a2, .i (L0.getD v4 R_iiiiiiAi.z).a3, .i (L0.getD v4 R_iiiiiiAi.z).a4, .i (L0.getD v4 R_iiiiiiAi.z).a5, (mc E_ii (L0.getD v4 R_iiiiiiAi.z).a6), .i (L0.getD v4 R_iiiiiiAi.z).a7], true), (Nat.blt v4 L0.length, true), ((v4 : Int) == Int.ofNat v4, true), ((decide ((v4 : Int) < (L0.length : Int))), true)]) (fun gv => by kernel_rfl) (oY <| oN <| Za (Ze (ZeR (by assumption))) <| Za (Zo (E := E_iiiiiiAi) (L := L0) (i := v4) (q := 0) (by omega) (show (0 + (v4 * 8)) = v4 * 8 + 0 from by omega) (show 0 + 8 ≤ 8 from by decide) rfl rfl) <| oB <| oI <| oY Zf) rfl (by decide) (by rfl) rr ⟨(Zi (E := E_iiiiiiAi) (α := R_iiiiiiAi) _ L0 _), trivial⟩
    ·
     refine Mach.ok_ite (fun g4 => ?_) (fun g4 => ?_)
     ·
      exact Mach.ok_fin (M := Z2 L0 N) (cd := 1000000) (cm := 0) (r := (.r0 (false) : Zr)) (fu := 4000) (orc := (Zm [(0, true), (1, false), (2, false), (3, true)] [] [(0, v4)] [(0, [.i (L0.getD v4 R_iiiiiiAi.z).a0, .i (L0.getD v4 R_iiiiiiAi.z).a1, .i (L0.getD v4 R_iiiiiiAi.z).a2, .i (L0.getD v4 R_iiiiiiAi.z).a3, .i (L0.getD v4 R_iiiiiiAi.z).a4, .i (L0.getD v4 R_iiiiiiAi.z).a5, (mc E_ii (L0.getD v4 R_iiiiiiAi.z).a6), .i (L0.getD v4 R_iiiiiiAi.z).a7])] [(1, .lk (some (vi (ZaJ v2 (L0.getD v4 R_iiiiiiAi.z).a1))))])) (live := [0]) (u := vf) (bl := [some (.cells (Zb E_iiiiiiAi L0) 27)]) (ob := [((decide ((L0.getD v4 R_iiiiiiAi.z).a4 > (L0.getD v4 R_iiiiiiAi.z).a5)), true), ((decide ((L0.getD v4 R_iiiiiiAi.z).a4 < (L0.getD v4 R_iiiiiiAi.z).a3)), false), ((decide ((L0.getD v4 R_iiiiiiAi.z).a3 < (1 : Int))), false), (dP (Zby .i64 (vi (L0.getD v4 R_iiiiiiAi.z).a1) (ZaB v2) = some (some (vi (ZaJ v2 (L0.getD v4 R_iiiiiiAi.z).a1)))), true), (Z1 (Zl 8 (List.drop (0 + (v4 * 8)) (Zb E_iiiiiiAi L0))) [.i (L0.getD v4 R_iiiiiiAi.z).a0, .i (L0.getD v4 R_iiiiiiAi.z).a1, .i (L0.getD v4 R_iiiiiiAi.z).a2, .i (L0.getD v4 R_iiiiiiAi.z).a3, .i (L0.getD v4 R_iiiiiiAi.z).a4, .i (L0.getD v4 R_iiiiiiAi.z).a5, (mc E_ii (L0.getD v4 R_iiiiiiAi.z).a6), .i (L0.getD v4 R_iiiiiiAi.z).a7], true), (Nat.blt v4 L0.length, true), ((v4 : Int) == Int.ofNat v4, true), ((decide ((v4 : Int) < (L0.length : Int))), true)]) (fun gv => by kernel_rfl) (oY <| oN <| oN <| Za (Ze (ZeR (by assumption))) <| Za (Zo (E := E_iiiiiiAi) (L := L0) (i := v4) (q := 0) (by omega) (show (0 + (v4 * 8)) = v4 * 8 + 0 from by omega) (show 0 + 8 ≤ 8 from by decide) rfl rfl) <| oB <| oI <| oY Zf) rfl (by decide) (by rfl) rr ⟨(Zi (E := E_iiiiiiAi) (α := R_iiiiiiAi) _ L0 _), trivial⟩
     ·
      refine Mach.ok_ite (fun g5 => ?_) (fun g5 => ?_)
      ·
       exact Mach.ok_fin (M := Z2 L0 N) (cd := 1000000) (cm := 0) (r := (.r0 (false) : Zr)) (fu := 4000) (orc := (Zm [(0, true), (1, false), (2, false), (3, false), (4, true)] [] [(0, v4)] [(0, [.i (L0.getD v4 R_iiiiiiAi.z).a0, .i (L0.getD v4 R_iiiiiiAi.z).a1, .i (L0.getD v4 R_iiiiiiAi.z).a2, .i (L0.getD v4 R_iiiiiiAi.z).a3, .i (L0.getD v4 R_iiiiiiAi.z).a4, .i (L0.getD v4 R_iiiiiiAi.z).a5, (mc E_ii (L0.getD v4 R_iiiiiiAi.z).a6), .i (L0.getD v4 R_iiiiiiAi.z).a7])] [(1, .lk (some (vi (ZaJ v2 (L0.getD v4 R_iiiiiiAi.z).a1))))])) (live := [0]) (u := vf) (bl := [some (.cells (Zb E_iiiiiiAi L0) 27)]) (ob := [((decide ((L0.getD v4 R_iiiiiiAi.z).a3 ≤ (ZaJ v2 (L0.getD v4 R_iiiiiiAi.z).a1))), true), ((decide ((L0.getD v4 R_iiiiiiAi.z).a4 > (L0.getD v4 R_iiiiiiAi.z).a5)), false), ((decide ((L0.getD v4 R_iiiiiiAi.z).a4 < (L0.getD v4 R_iiiiiiAi.z).a3)), false), ((decide ((L0.getD v4 R_iiiiiiAi.z).a3 < (1 : Int))), false), (dP (Zby .i64 (vi (L0.getD v4 R_iiiiiiAi.z).a1) (ZaB v2) = some (some (vi (ZaJ v2 (L0.getD v4 R_iiiiiiAi.z).a1)))), true), (Z1 (Zl 8 (List.drop (0 + (v4 * 8)) (Zb E_iiiiiiAi L0))) [.i (L0.getD v4 R_iiiiiiAi.z).a0, .i (L0.getD v4 R_iiiiiiAi.z).a1, .i (L0.getD v4 R_iiiiiiAi.z).a2, .i (L0.getD v4 R_iiiiiiAi.z).a3, .i (L0.getD v4 R_iiiiiiAi.z).a4, .i (L0.getD v4 R_iiiiiiAi.z).a5, (mc E_ii (L0.getD v4 R_iiiiiiAi.z).a6), .i (L0.getD v4 R_iiiiiiAi.z).a7], true), (Nat.blt v4 L0.length, true), ((v4 : Int) == Int.ofNat v4, true), ((decide ((v4 : Int) < (L0.length : Int))), true)]) (fun gv => by kernel_rfl) (oY <| oN <| oN <| oN <| Za (Ze (ZeR (by assumption))) <| Za (Zo (E := E_iiiiiiAi) (L := L0) (i := v4) (q := 0) (by omega) (show (0 + (v4 * 8)) = v4 * 8 + 0 from by omega) (show 0 + 8 ≤ 8 from by decide) rfl rfl) <| oB <| oI <| oY Zf) rfl (by decide) (by rfl) rr ⟨(Zi (E := E_iiiiiiAi) (α := R_iiiiiiAi) _ L0 _), trivial⟩
      ·
       refine Mach.ok_ite (fun g6 => ?_) (fun g6 => ?_)
       ·
        exact Mach.ok_fin (M := Z2 L0 N) (cd := 1000000) (cm := 0) (r := (.r0 (false) : Zr)) (fu := 4000) (orc := (Zm [(0, true), (1, false), (2, false), (3, false), (4, false)] [] [(0, v4)] [(0, [.i (L0.getD v4 R_iiiiiiAi.z).a0, .i (L0.getD v4 R_iiiiiiAi.z).a1, .i (L0.getD v4 R_iiiiiiAi.z).a2, .i (L0.getD v4 R_iiiiiiAi.z).a3, .i (L0.getD v4 R_iiiiiiAi.z).a4, .i (L0.getD v4 R_iiiiiiAi.z).a5, (mc E_ii (L0.getD v4 R_iiiiiiAi.z).a6), .i (L0.getD v4 R_iiiiiiAi.z).a7])] [(1, .lk (some (vi (ZaJ v2 (L0.getD v4 R_iiiiiiAi.z).a1)))), (2, .lk (some (vi (ZaJ v1 (L0.getD v4 R_iiiiiiAi.z).a4))))])) (live := [0]) (u := vf) (bl := [some (.cells (Zb E_iiiiiiAi L0) 27)]) (ob := [(dP (Zby .i64 (vi (L0.getD v4 R_iiiiiiAi.z).a4) (ZaB v1) = some (some (vi (ZaJ v1 (L0.getD v4 R_iiiiiiAi.z).a4)))), true), ((decide ((L0.getD v4 R_iiiiiiAi.z).a3 ≤ (ZaJ v2 (L0.getD v4 R_iiiiiiAi.z).a1))), false), ((decide ((L0.getD v4 R_iiiiiiAi.z).a4 > (L0.getD v4 R_iiiiiiAi.z).a5)), false), ((decide ((L0.getD v4 R_iiiiiiAi.z).a4 < (L0.getD v4 R_iiiiiiAi.z).a3)), false), ((decide ((L0.getD v4 R_iiiiiiAi.z).a3 < (1 : Int))), false), (dP (Zby .i64 (vi (L0.getD v4 R_iiiiiiAi.z).a1) (ZaB v2) = some (some (vi (ZaJ v2 (L0.getD v4 R_iiiiiiAi.z).a1)))), true), (Z1 (Zl 8 (List.drop (0 + (v4 * 8)) (Zb E_iiiiiiAi L0))) [.i (L0.getD v4 R_iiiiiiAi.z).a0, .i (L0.getD v4 R_iiiiiiAi.z).a1, .i (L0.getD v4 R_iiiiiiAi.z).a2, .i (L0.getD v4 R_iiiiiiAi.z).a3, .i (L0.getD v4 R_iiiiiiAi.z).a4, .i (L0.getD v4 R_iiiiiiAi.z).a5, (mc E_ii (L0.getD v4 R_iiiiiiAi.z).a6), .i (L0.getD v4 R_iiiiiiAi.z).a7], true), (Nat.blt v4 L0.length, true), ((v4 : Int) == Int.ofNat v4, true), ((decide ((v4 : Int) < (L0.length : Int))), true)]) (fun gv => by kernel_rfl) (Za (Ze (ZeR (by assumption))) <| oN <| oN <| oN <| oN <| Za (Ze (ZeR (by assumption))) <| Za (Zo (E := E_iiiiiiAi) (L := L0) (i := v4) (q := 0) (by omega) (show (0 + (v4 * 8)) = v4 * 8 + 0 from by omega) (show 0 + 8 ≤ 8 from by decide) rfl rfl) <| oB <| oI <| oY Zf) rfl (by decide) (by rfl) rr ⟨(Zi (E := E_iiiiiiAi) (α := R_iiiiiiAi) _ L0 _), trivial⟩
       ·
        refine Mach.ok_ite (fun g7 => ?_) (fun g7 => ?_)
        ·
         exact Mach.ok_next (M := Z2 L0 N) (cd := 1000000) (cm := 0) (y := (.h1m0 ((Zaw v1 (L0.getD v4 R_iiiiiiAi.z).a4 (v4 : Int))) ((Zaw v2 (L0.getD v4 R_iiiiiiAi.z).a1 (L0.getD v4 R_iiiiiiAi.z).a5)) ((v4 + 1)) : Z5)) (fu := 4000) (orc := (Zm [(0, true), (1, false), (2, false), (3, false), (4, false)] [(0, (((v4 + 1) : Nat) : Int))] [(0, v4)] [(0, [.i (L0.getD v4 R_iiiiiiAi.z).a0, .i (L0.getD v4 R_iiiiiiAi.z).a1, .i (L0.getD v4 R_iiiiiiAi.z).a2, .i (L0.getD v4 R_iiiiiiAi.z).a3, .i (L0.getD v4 R_iiiiiiAi.z).a4, .i (L0.getD v4 R_iiiiiiAi.z).a5, (mc E_ii (L0.getD v4 R_iiiiiiAi.z).a6), .i (L0.getD v4 R_iiiiiiAi.z).a7])] [(1, .lk (some (vi (ZaJ v2 (L0.getD v4 R_iiiiiiAi.z).a1)))), (2, .lk (none)), (3, .mp (ZaB (Zaw v1 (L0.getD v4 R_iiiiiiAi.z).a4 (v4 : Int)))), (4, .mp (ZaB (Zaw v2 (L0.getD v4 R_iiiiiiAi.z).a1 (L0.getD v4 R_iiiiiiAi.z).a5)))])) (live := [0, 1, 2]) (tv := fun _ => [some (Value.map (some 1)), some (Value.map (some 2)), some (vs 0 0 L0.length L0.length), some (vi (L0.length : Int)), some (vi (((v4 + 1) : Nat) : Int))]) (bl := [some (.cells (Zb E_iiiiiiAi L0) 27), some (.ro (ZbE (Zaw v1 (L0.getD v4 R_iiiiiiAi.z).a4 (v4 : Int))) true), some (.ro (ZbE (Zaw v2 (L0.getD v4 R_iiiiiiAi.z).a1 (L0.getD v4 R_iiiiiiAi.z).a5)) true)]) (ob := [((IntKind.i64.wrap ((v4 : Int) + (1 : Int))) == (((v4 + 1) : Nat) : Int), true), (dP (Zhn .i64 (vi (L0.getD v4 R_iiiiiiAi.z).a1) (vi (L0.getD v4 R_iiiiiiAi.z).a5) (ZaB v2) = some (ZaB (Zaw v2 (L0.getD v4 R_iiiiiiAi.z).a1 (L0.getD v4 R_iiiiiiAi.z).a5))), true), (dP (Zhn .i64 (vi (L0.getD v4 R_iiiiiiAi.z).a4) (vi (v4 : Int)) (ZaB v1) = some (ZaB (Zaw v1 (L0.getD v4 R_iiiiiiAi.z).a4 (v4 : Int)))), true), (dP (Zby .i64 (vi (L0.getD v4 R_iiiiiiAi.z).a4) (ZaB v1) = some (none)), true), ((decide ((L0.getD v4 R_iiiiiiAi.z).a3 ≤ (ZaJ v2 (L0.getD v4 R_iiiiiiAi.z).a1))), false), ((decide ((L0.getD v4 R_iiiiiiAi.z).a4 > (L0.getD v4 R_iiiiiiAi.z).a5)), false), ((decide ((L0.getD v4 R_iiiiiiAi.z).a4 < (L0.getD v4 R_iiiiiiAi.z).a3)), false), ((decide ((L0.getD v4 R_iiiiiiAi.z).a3 < (1 : Int))), false), (dP (Zby .i64 (vi (L0.getD v4 R_iiiiiiAi.z).a1) (ZaB v2) = some (some (vi (ZaJ v2 (L0.getD v4 R_iiiiiiAi.z).a1)))), true), (Z1 (Zl 8 (List.drop (0 + (v4 * 8)) (Zb E_iiiiiiAi L0))) [.i (L0.getD v4 R_iiiiiiAi.z).a0, .i (L0.getD v4 R_iiiiiiAi.z).a1, .i (L0.getD v4 R_iiiiiiAi.z).a2, .i (L0.getD v4 R_iiiiiiAi.z).a3, .i (L0.getD v4 R_iiiiiiAi.z).a4, .i (L0.getD v4 R_iiiiiiAi.z).a5, (mc E_ii (L0.getD v4 R_iiiiiiAi.z).a6), .i (L0.getD v4 R_iiiiiiAi.z).a7], true), (Nat.blt v4 L0.length, true), ((v4 : Int) == Int.ofNat v4, true), ((decide ((v4 : Int) < (L0.length : Int))), true)]) rfl (show 1 ∈ Zv (Zhm 1) from by decide +kernel) (fun gv => by kernel_rfl) (Za (beq_iff_eq.2 ((wrap_i64 ltA).trans (by first | rfl | omega))) <| Za (Ze (Zlk _ _ _)) <| Za (Ze (Zlk _ _ _)) <| Za (Ze (Zf5 (by assumption))) <| oN <| oN <| oN <| oN <| Za (Ze (ZeR (by assumption))) <| Za (Zo (E := E_iiiiiiAi) (L := L0) (i := v4) (q := 0) (by omega) (show (0 + (v4 * 8)) = v4 * 8 + 0 from by omega) (show 0 + 8 ≤ 8 from by decide) rfl rfl) <| oB <| oI <| oY Zf) rfl (by decide) (by rfl) (fun _ => ⟨rr, ⟨rr, ⟨rr, ⟨rr, ⟨rr, trivial⟩⟩⟩⟩⟩) ⟨(Zi (E := E_iiiiiiAi) (α := R_iiiiiiAi) _ L0 _), ⟨(show ZbE (Zaw v1 (L0.getD v4 R_iiiiiiAi.z).a4 (v4 : Int)) = ZbE (Zaw v1 (L0.getD v4 R_iiiiiiAi.z).a4 (v4 : Int)) from rfl), ⟨(show ZbE (Zaw v2 (L0.getD v4 R_iiiiiiAi.z).a1 (L0.getD v4 R_iiiiiiAi.z).a5) = ZbE (Zaw v2 (L0.getD v4 R_iiiiiiAi.z).a1 (L0.getD v4 R_iiiiiiAi.z).a5) from rfl), trivial⟩⟩⟩
        ·
         exact Mach.ok_none
  ·
   refine Mach.ok_ite (fun g2 => ?_) (fun g2 => ?_)
   ·
    exact Mach.ok_fin (M := Z2 L0 N) (cd := 1000000) (cm := 0) (r := (.r0 (false) : Zr)) (fu := 4000) (orc := (Zm [(0, true), (1, true)] [] [(0, v4)] [(0, [.i (L0.getD v4 R_iiiiiiAi.z).a0, .i (L0.getD v4 R_iiiiiiAi.z).a1, .i (L0.getD v4 R_iiiiiiAi.z).a2, .i (L0.getD v4 R_iiiiiiAi.z).a3, .i (L0.getD v4 R_iiiiiiAi.z).a4, .i (L0.getD v4 R_iiiiiiAi.z).a5, (mc E_ii (L0.getD v4 R_iiiiiiAi.z).a6), .i (L0.getD v4 R_iiiiiiAi.z).a7])] [(1, .lk (none))])) (live := [0]) (u := vf) (bl := [some (.cells (Zb E_iiiiiiAi L0) 27)]) (ob := [((decide ((L0.getD v4 R_iiiiiiAi.z).a3 < (1 : Int))), true), (dP (Zby .i64 (vi (L0.getD v4 R_iiiiiiAi.z).a1) (ZaB v2) = some (none)), true), (Z1 (Zl 8 (List.drop (0 + (v4 * 8)) (Zb E_iiiiiiAi L0))) [.i (L0.getD v4 R_iiiiiiAi.z).a0, .i (L0.getD v4 R_iiiiiiAi.z).a1, .i (L0.getD v4 R_iiiiiiAi.z).a2, .i (L0.getD v4 R_iiiiiiAi.z).a3, .i (L0.getD v4 R_iiiiiiAi.z).a4, .i (L0.getD v4 R_iiiiiiAi.z).a5, (mc E_ii (L0.getD v4 R_iiiiiiAi.z).a6), .i (L0.getD v4 R_iiiiiiAi.z).a7], true), (Nat.blt v4 L0.length, true), ((v4 : Int) == Int.ofNat v4, true), ((decide ((v4 : Int) < (L0.length : Int))), true)]) (fun gv => by kernel_rfl) (oY <| Za (Ze (Zf5 (by assumption))) <| Za (Zo (E := E_iiiiiiAi) (L := L0) (i := v4) (q := 0) (by omega) (show (0 + (v4 * 8)) = v4 * 8 + 0 from by omega) (show 0 + 8 ≤ 8 from by decide) rfl rfl) <| oB <| oI <| oY Zf) rfl (by decide) (by rfl) rr ⟨(Zi (E := E_iiiiiiAi) (α := R_iiiiiiAi) _ L0 _), trivial⟩
   ·
    refine Mach.ok_ite (fun g3 => ?_) (fun g3 => ?_)
    ·
     exact Mach.ok_fin (M := Z2 L0 N) (cd := 1000000) (cm := 0) (r := (.r0 (false) : Zr)) (fu := 4000) (orc := (Zm [(0, true), (1, false), (2, true)] [] [(0, v4)] [(0, [.i (L0.getD v4 R_iiiiiiAi.z).a0, .i (L0.getD v4 R_iiiiiiAi.z).a1, .i (L0.getD v4 R_iiiiiiAi.z).a2, .i (L0.getD v4 R_iiiiiiAi.z).a3, .i (L0.getD v4 R_iiiiiiAi.z).a4, .i (L0.getD v4 R_iiiiiiAi.z).a5, (mc E_ii (L0.getD v4 R_iiiiiiAi.z).a6), .i (L0.getD v4 R_iiiiiiAi.z).a7])] [(1, .lk (none))])) (live := [0]) (u := vf) (bl := [some (.cells (Zb E_iiiiiiAi L0) 27)]) (ob := [((decide ((L0.getD v4 R_iiiiiiAi.z).a4 < (L0.getD v4 R_iiiiiiAi.z).a3)), true), ((decide ((L0.getD v4 R_iiiiiiAi.z).a3 < (1 : Int))), false), (dP (Zby .i64 (vi (L0.getD v4 R_iiiiiiAi.z).a1) (ZaB v2) = some (none)), true), (Z1 (Zl 8 (List.drop (0 + (v4 * 8)) (Zb E_iiiiiiAi L0))) [.i (L0.getD v4 R_iiiiiiAi.z).a0, .i (L0.getD v4 R_iiiiiiAi.z).a1, .i (L0.getD v4 R_iiiiiiAi.z).a2, .i (L0.getD v4 R_iiiiiiAi.z).a3, .i (L0.getD v4 R_iiiiiiAi.z).a4, .i (L0.getD v4 R_iiiiiiAi.z).a5, (mc E_ii (L0.getD v4 R_iiiiiiAi.z).a6), .i (L0.getD v4 R_iiiiiiAi.z).a7], true), (Nat.blt v4 L0.length, true), ((v4 : Int) == Int.ofNat v4, true), ((decide ((v4 : Int) < (L0.length : Int))), true)]) (fun gv => by kernel_rfl) (oY <| oN <| Za (Ze (Zf5 (by assumption))) <| Za (Zo (E := E_iiiiiiAi) (L := L0) (i := v4) (q := 0) (by omega) (show (0 + (v4 * 8)) = v4 * 8 + 0 from by omega) (show 0 + 8 ≤ 8 from by decide) rfl rfl) <| oB <| oI <| oY Zf) rfl (by decide) (by rfl) rr ⟨(Zi (E := E_iiiiiiAi) (α := R_iiiiiiAi) _ L0 _), trivial⟩
    ·
     refine Mach.ok_ite (fun g4 => ?_) (fun g4 => ?_)
     ·
      exact Mach.ok_fin (M := Z2 L0 N) (cd := 1000000) (cm := 0) (r := (.r0 (false) : Zr)) (fu := 4000) (orc := (Zm [(0, true), (1, false), (2, false), (3, true)] [] [(0, v4)] [(0, [.i (L0.getD v4 R_iiiiiiAi.z).a0, .i (L0.getD v4 R_iiiiiiAi.z).a1, .i (L0.getD v4 R_iiiiiiAi.z).a2, .i (L0.getD v4 R_iiiiiiAi.z).a3, .i (L0.getD v4 R_iiiiiiAi.z).a4, .i (L0.getD v4 R_iiiiiiAi.z).a5, (mc E_ii (L0.getD v4 R_iiiiiiAi.z).a6), .i (L0.getD v4 R_iiiiiiAi.z).a7])] [(1, .lk (none))])) (live := [0]) (u := vf) (bl := [some (.cells (Zb E_iiiiiiAi L0) 27)]) (ob := [((decide ((L0.getD v4 R_iiiiiiAi.z).a4 > (L0.getD v4 R_iiiiiiAi.z).a5)), true), ((decide ((L0.getD v4 R_iiiiiiAi.z).a4 < (L0.getD v4 R_iiiiiiAi.z).a3)), false), ((decide ((L0.getD v4 R_iiiiiiAi.z).a3 < (1 : Int))), false), (dP (Zby .i64 (vi (L0.getD v4 R_iiiiiiAi.z).a1) (ZaB v2) = some (none)), true), (Z1 (Zl 8 (List.drop (0 + (v4 * 8)) (Zb E_iiiiiiAi L0))) [.i (L0.getD v4 R_iiiiiiAi.z).a0, .i (L0.getD v4 R_iiiiiiAi.z).a1, .i (L0.getD v4 R_iiiiiiAi.z).a2, .i (L0.getD v4 R_iiiiiiAi.z).a3, .i (L0.getD v4 R_iiiiiiAi.z).a4, .i (L0.getD v4 R_iiiiiiAi.z).a5, (mc E_ii (L0.getD v4 R_iiiiiiAi.z).a6), .i (L0.getD v4 R_iiiiiiAi.z).a7], true), (Nat.blt v4 L0.length, true), ((v4 : Int) == Int.ofNat v4, true), ((decide ((v4 : Int) < (L0.length : Int))), true)]) (fun gv => by kernel_rfl) (oY <| oN <| oN <| Za (Ze (Zf5 (by assumption))) <| Za (Zo (E := E_iiiiiiAi) (L := L0) (i := v4) (q := 0) (by omega) (show (0 + (v4 * 8)) = v4 * 8 + 0 from by omega) (show 0 + 8 ≤ 8 from by decide) rfl rfl) <| oB <| oI <| oY Zf) rfl (by decide) (by rfl) rr ⟨(Zi (E := E_iiiiiiAi) (α := R_iiiiiiAi) _ L0 _), trivial⟩
     ·
      refine Mach.ok_ite (fun g5 => ?_) (fun g5 => ?_)
      ·
       exact Mach.ok_fin (M := Z2 L0 N) (cd := 1000000) (cm := 0) (r := (.r0 (false) : Zr)) (fu := 4000) (orc := (Zm [(0, true), (1, false), (2, false), (3, false)] [] [(0, v4)] [(0, [.i (L0.getD v4 R_iiiiiiAi.z).a0, .i (L0.getD v4 R_iiiiiiAi.z).a1, .i (L0.getD v4 R_iiiiiiAi.z).a2, .i (L0.getD v4 R_iiiiiiAi.z).a3, .i (L0.getD v4 R_iiiiiiAi.z).a4, .i (L0.getD v4 R_iiiiiiAi.z).a5, (mc E_ii (L0.getD v4 R_iiiiiiAi.z).a6), .i (L0.getD v4 R_iiiiiiAi.z).a7])] [(1, .lk (none)), (2, .lk (some (vi (ZaJ v1 (L0.getD v4 R_iiiiiiAi.z).a4))))])) (live := [0]) (u := vf) (bl := [some (.cells (Zb E_iiiiiiAi L0) 27)]) (ob := [(dP (Zby .i64 (vi (L0.getD v4 R_iiiiiiAi.z).a4) (ZaB v1) = some (some (vi (ZaJ v1 (L0.getD v4 R_iiiiiiAi.z).a4)))), true), ((decide ((L0.getD v4 R_iiiiiiAi.z).a4 > (L0.getD v4 R_iiiiiiAi.z).a5)), false), ((decide ((L0.getD v4 R_iiiiiiAi.z).a4 < (L0.getD v4 R_iiiiiiAi.z).a3)), false), ((decide ((L0.getD v4 R_iiiiiiAi.z).a3 < (1 : Int))), false), (dP (Zby .i64 (vi (L0.getD v4 R_iiiiiiAi.z).a1) (ZaB v2) = some (none)), true), (Z1 (Zl 8 (List.drop (0 + (v4 * 8)) (Zb E_iiiiiiAi L0))) [.i (L0.getD v4 R_iiiiiiAi.z).a0, .i (L0.getD v4 R_iiiiiiAi.z).a1, .i (L0.getD v4 R_iiiiiiAi.z).a2, .i (L0.getD v4 R_iiiiiiAi.z).a3, .i (L0.getD v4 R_iiiiiiAi.z).a4, .i (L0.getD v4 R_iiiiiiAi.z).a5, (mc E_ii (L0.getD v4 R_iiiiiiAi.z).a6), .i (L0.getD v4 R_iiiiiiAi.z).a7], true), (Nat.blt v4 L0.length, true), ((v4 : Int) == Int.ofNat v4, true), ((decide ((v4 : Int) < (L0.length : Int))), true)]) (fun gv => by kernel_rfl) (Za (Ze (ZeR (by assumption))) <| oN <| oN <| oN <| Za (Ze (Zf5 (by assumption))) <| Za (Zo (E := E_iiiiiiAi) (L := L0) (i := v4) (q := 0) (by omega) (show (0 + (v4 * 8)) = v4 * 8 + 0 from by omega) (show 0 + 8 ≤ 8 from by decide) rfl rfl) <| oB <| oI <| oY Zf) rfl (by decide) (by rfl) rr ⟨(Zi (E := E_iiiiiiAi) (α := R_iiiiiiAi) _ L0 _), trivial⟩
      ·
       refine Mach.ok_ite (fun g6 => ?_) (fun g6 => ?_)
       ·
        exact Mach.ok_next (M := Z2 L0 N) (cd := 1000000) (cm := 0) (y := (.h1m0 ((Zaw v1 (L0.getD v4 R_iiiiiiAi.z).a4 (v4 : Int))) ((Zaw v2 (L0.getD v4 R_iiiiiiAi.z).a1 (L0.getD v4 R_iiiiiiAi.z).a5)) ((v4 + 1)) : Z5)) (fu := 4000) (orc := (Zm [(0, true), (1, false), (2, false), (3, false)] [(0, (((v4 + 1) : Nat) : Int))] [(0, v4)] [(0, [.i (L0.getD v4 R_iiiiiiAi.z).a0, .i (L0.getD v4 R_iiiiiiAi.z).a1, .i (L0.getD v4 R_iiiiiiAi.z).a2, .i (L0.getD v4 R_iiiiiiAi.z).a3, .i (L0.getD v4 R_iiiiiiAi.z).a4, .i (L0.getD v4 R_iiiiiiAi.z).a5, (mc E_ii (L0.getD v4 R_iiiiiiAi.z).a6), .i (L0.getD v4 R_iiiiiiAi.z).a7])] [(1, .lk (none)), (2, .lk (none)), (3, .mp (ZaB (Zaw v1 (L0.getD v4 R_iiiiiiAi.z).a4 (v4 : Int)))), (4, .mp (ZaB (Zaw v2 (L0.getD v4 R_iiiiiiAi.z).a1 (L0.getD v4 R_iiiiiiAi.z).a5)))])) (live := [0, 1, 2]) (tv := fun _ => [some (Value.map (some 1)), some (Value.map (some 2)), some (vs 0 0 L0.length L0.length), some (vi (L0.length : Int)), some (vi (((v4 + 1) : Nat) : Int))]) (bl := [some (.cells (Zb E_iiiiiiAi L0) 27), some (.ro (ZbE (Zaw v1 (L0.getD v4 R_iiiiiiAi.z).a4 (v4 : Int))) true), some (.ro (ZbE (Zaw v2 (L0.getD v4 R_iiiiiiAi.z).a1 (L0.getD v4 R_iiiiiiAi.z).a5)) true)]) (ob := [((IntKind.i64.wrap ((v4 : Int) + (1 : Int))) == (((v4 + 1) : Nat) : Int), true), (dP (Zhn .i64 (vi (L0.getD v4 R_iiiiiiAi.z).a1) (vi (L0.getD v4 R_iiiiiiAi.z).a5) (ZaB v2) = some (ZaB (Zaw v2 (L0.getD v4 R_iiiiiiAi.z).a1 (L0.getD v4 R_iiiiiiAi.z).a5))), true), (dP (Zhn .i64 (vi (L0.getD v4 R_iiiiiiAi.z).a4) (vi (v4 : Int)) (ZaB v1) = some (ZaB (Zaw v1 (L0.getD v4 R_iiiiiiAi.z).a4 (v4 : Int)))), true), (dP (Zby .i64 (vi (L0.getD v4 R_iiiiiiAi.z).a4) (ZaB v1) = some (none)), true), ((decide ((L0.getD v4 R_iiiiiiAi.z).a4 > (L0.getD v4 R_iiiiiiAi.z).a5)), false), ((decide ((L0.getD v4 R_iiiiiiAi.z).a4 < (L0.getD v4 R_iiiiiiAi.z).a3)), false), ((decide ((L0.getD v4 R_iiiiiiAi.z).a3 < (1 : Int))), false), (dP (Zby .i64 (vi (L0.getD v4 R_iiiiiiAi.z).a1) (ZaB v2) = some (none)), true), (Z1 (Zl 8 (List.drop (0 + (v4 * 8)) (Zb E_iiiiiiAi L0))) [.i (L0.getD v4 R_iiiiiiAi.z).a0, .i (L0.getD v4 R_iiiiiiAi.z).a1, .i (L0.getD v4 R_iiiiiiAi.z).a2, .i (L0.getD v4 R_iiiiiiAi.z).a3, .i (L0.getD v4 R_iiiiiiAi.z).a4, .i (L0.getD v4 R_iiiiiiAi.z).a5, (mc E_ii (L0.getD v4 R_iiiiiiAi.z).a6), .i (L0.getD v4 R_iiiiiiAi.z).a7], true), (Nat.blt v4 L0.length, true), ((v4 : Int) == Int.ofNat v4, true), ((decide ((v4 : Int) < (L0.length : Int))), true)]) rfl (show 1 ∈ Zv (Zhm 1) from by decide +kernel) (fun gv => by kernel_rfl) (Za (beq_iff_eq.2 ((wrap_i64 ltA).trans (by first | rfl | omega))) <| Za (Ze (Zlk _ _ _)) <| Za (Ze (Zlk _ _ _)) <| Za (Ze (Zf5 (by assumption))) <| oN <| oN <| oN <| Za (Ze (Zf5 (by assumption))) <| Za (Zo (E := E_iiiiiiAi) (L := L0) (i := v4) (q := 0) (by omega) (show (0 + (v4 * 8)) = v4 * 8 + 0 from by omega) (show 0 + 8 ≤ 8 from by decide) rfl rfl) <| oB <| oI <| oY Zf) rfl (by decide) (by rfl) (fun _ => ⟨rr, ⟨rr, ⟨rr, ⟨rr, ⟨rr, trivial⟩⟩⟩⟩⟩) ⟨(Zi (E := E_iiiiiiAi) (α := R_iiiiiiAi) _ L0 _), ⟨(show ZbE (Zaw v1 (L0.getD v4 R_iiiiiiAi.z).a4 (v4 : Int)) = ZbE (Zaw v1 (L0.getD v4 R_iiiiiiAi.z).a4 (v4 : Int)) from rfl), ⟨(show ZbE (Zaw v2 (L0.getD v4 R_iiiiiiAi.z).a1 (L0.getD v4 R_iiiiiiAi.z).a5) = ZbE (Zaw v2 (L0.getD v4 R_iiiiiiAi.z).a1 (L0.getD v4 R_iiiiiiAi.z).a5) from rfl), trivial⟩⟩⟩
       ·
        exact Mach.ok_none
 ·
  exact Mach.ok_fin (M := Z2 L0 N) (cd := 1000000) (cm := 0) (r := (.r0 (true) : Zr)) (fu := 4000) (orc := (Zm [(0, false)] [] [] [] [])) (live := [0]) (u := vT) (bl := [some (.cells (Zb E_iiiiiiAi L0) 27)]) (ob := [((decide ((v4 : Int) < (L0.length : Int))), false)]) (fun gv => by kernel_rfl) (oN Zf) rfl (by decide) (by rfl) rr ⟨(Zi (E := E_iiiiiiAi) (α := R_iiiiiiAi) _ L0 _), trivial⟩

theorem ZjN (L0 : List R_iiiiiiAi) (N : Nat) : (Z2 L0 N).Enter Tryz.prog Zp #[vs 0 0 L0.length L0.length] (ZeH L0 N) := by
 unfold ZeH
 exact Mach.en_head (bK := Zca 1) (M := Z2 L0 N) (cd := 1000000) (cm := 0) (y := (.h1m0 (([] : List R_ii)) (([] : List R_ii)) (0) : Z5)) (fu := 4000) (orc := (Zm [] [] [] [] [])) (live := [0, 1, 2]) (tv := [some (Value.map (some 1)), some (Value.map (some 2)), some (vs 0 0 L0.length L0.length), some (vi (L0.length : Int)), some (vq)]) (bl := [some (.cells (Zb E_iiiiiiAi L0) 27), some (.ro (ZbE ([] : List R_ii)) true), some (.ro (ZbE ([] : List R_ii)) true)]) (ob := []) rfl rfl (show Zv (Zca 1).2 = [] from rfl) (by kernel_rfl) Zf rfl (by decide) (by rfl) ⟨rr, ⟨rr, ⟨rr, ⟨rr, ⟨⟨Eq.trans (show (vi ((0 : Nat) : Int) : Value) = vq from (congrArg (Value.int .i64) (by first | rfl | omega))) (by rfl), by rfl⟩, trivial⟩⟩⟩⟩⟩ ⟨(Zi (E := E_iiiiiiAi) (α := R_iiiiiiAi) _ L0 _), ⟨(show ZbE ([] : List R_ii) = ZbE ([] : List R_ii) from rfl), ⟨(show ZbE ([] : List R_ii) = ZbE ([] : List R_ii) from rfl), trivial⟩⟩⟩

theorem Zi9 (L0 : List R_iiiiiiAi) (N : Nat) (r : Zr) (h : Zeg L0 N = some r) : LSpec Tryz.prog 13 #[vs 0 0 L0.length L0.length] [.cells (Zb E_iiiiiiAi L0) 27] (Zhl L0 r) (ZgR L0 r) :=
 Mach.spec ZbX (Z2 L0 N) Tryz.func13 (by kernel_rfl) (by kernel_rfl) (fun x => by cases x <;> exact Zad _ rfl) (fun r => by cases r <;> exact Zad _ rfl) (fun x => by
  cases x with
  | h1m0 _ _ _ => exact fun _ => (show ¬ (1 ∈ Zv (Zca 1).2) from by decide +kernel)
  ) (fun x => (show (Z2 L0 N).Ok Tryz.prog Zp x (Zae L0 N x) from by
  cases x with
  | h1m0 v1 v2 v4 => exact Zir L0 v1 v2 v4 N
  )) (ZjN L0 N) (n := N) h

noncomputable def ZeI (L0 : List R_iiiiiiAi) (w1 : Bool) (k0 n : Nat) : Zbh := .call [(k0, .cells (Zb E_iiiiiiAi L0) 27)] (Value.bool w1) [] 0
def Zdw (A : Array Value) (L0 : List R_iiiiiiAi) (w1 : Bool) (k0 n : Nat) : Prop := Z3 Tryz.prog 13 A [(k0, .cells (Zb E_iiiiiiAi L0) 27)] (Value.bool w1) [] n 0

theorem ZeJ (A : Array Value) (L0 : List R_iiiiiiAi) (w1 : Bool) (N : Nat) (h : Zeg L0 N = some (.r0 w1)) (k0 n : Nat) (hA : A = #[vs k0 0 L0.length L0.length]) (hnd : ([k0] : List Nat).Nodup) (hlt : ∀ k ∈ ([k0] : List Nat), k < n) : Zdw A L0 w1 k0 n :=
 Zal hA (LSpec.callL (show LSpec Tryz.prog 13 #[vs 0 0 L0.length L0.length] [.cells (Zb E_iiiiiiAi L0) 27] (Value.bool w1) [some (.cells (Zb E_iiiiiiAi L0) 27)] from Zi9 L0 N _ h) [k0] n [] rfl hnd hlt (show 1 ≤ 1 from by decide) (show ∀ j ∈ ([] : List Nat), j < 1 from by decide) (by rfl) ⟨(Zy _ _ _), trivial⟩ (by rfl) ⟨(Zy _ _ _), trivial⟩ ⟨.inr rfl, trivial⟩ rfl rfl rfl (ZaS (ZaT rfl (Za9 _ _ _)) rfl) rfl)

noncomputable def ZdZ (L0 : List R_iiiiiiAi) : ZD → Value
 | .r0 => ms E_iiiiiiAi ([] : List R_iiiiiiAi)
 | .r1 => vs 1 0 L0.length L0.length
noncomputable def ZdK (L0 : List R_iiiiiiAi) : ZD → List (Option AObj)
 | .r0 => [some (.cells (Zb E_iiiiiiAi L0) 27)]
 | .r1 => [some (.cells (Zb E_iiiiiiAi L0) 27), some (.cells (Zb E_iiiiiiAi L0) 27)]

theorem Zb5 (L0 : List R_iiiiiiAi) (N : Nat) (r : ZD) (h : Z4 L0 N = some r) : LSpec Tryz.prog 14 #[vs 0 0 L0.length L0.length] [.cells (Zb E_iiiiiiAi L0) 27] (ZdZ L0 r) (ZdK L0 r) := by
 unfold Z4 at h
 by_cases h0 : (L0.length : Int) = (0 : Int)
 · rw [if_pos h0] at h
   obtain rfl := (Option.some.inj h).symm
   exact Zp3 (E := E_iiiiiiAi) (L := L0) Zk5 (List.length_eq_zero_iff.1 (by omega))
 · rw [if_neg h0] at h
   by_cases h1 : L0.length ≤ 100000
   · rw [if_pos h1] at h
     obtain rfl := (Option.some.inj h).symm
     exact Zp4 (E := E_iiiiiiAi) (L := L0) Zk5 (fun e => h0 (by rw [e]; rfl)) (Nat.le_trans h1 (by decide)) (by show L0.length * 80 ≤ _; omega)
   · rw [if_neg h1] at h; cases h

noncomputable def ZdL (L0 : List R_iiiiiiAi) (k0 n : Nat) : Zbh := .call [(k0, .cells (Zb E_iiiiiiAi L0) 27)] (ms E_iiiiiiAi ([] : List R_iiiiiiAi)) [] 0
def ZbT (A : Array Value) (L0 : List R_iiiiiiAi) (k0 n : Nat) : Prop := Z3 Tryz.prog 14 A [(k0, .cells (Zb E_iiiiiiAi L0) 27)] (ms E_iiiiiiAi ([] : List R_iiiiiiAi)) [] n 0

theorem ZdM (A : Array Value) (L0 : List R_iiiiiiAi) (N : Nat) (h : Z4 L0 N = some (.r0)) (k0 n : Nat) (hA : A = #[vs k0 0 L0.length L0.length]) (hnd : ([k0] : List Nat).Nodup) (hlt : ∀ k ∈ ([k0] : List Nat), k < n) : ZbT A L0 k0 n :=
 Zal hA (LSpec.callL (show LSpec Tryz.prog 14 #[vs 0 0 L0.length L0.length] [.cells (Zb E_iiiiiiAi L0) 27] (ms E_iiiiiiAi ([] : List R_iiiiiiAi)) [some (.cells (Zb E_iiiiiiAi L0) 27)] from Zb5 L0 N _ h) [k0] n [] rfl hnd hlt (show 1 ≤ 1 from by decide) (show ∀ j ∈ ([] : List Nat), j < 1 from by decide) (by rfl) ⟨(Zy _ _ _), trivial⟩ (by rfl) ⟨(Zy _ _ _), trivial⟩ ⟨.inr rfl, trivial⟩ rfl rfl rfl (ZaS (ZaT rfl (Za9 _ _ _)) rfl) rfl)

noncomputable def ZdN (L0 : List R_iiiiiiAi) (k0 n : Nat) : Zbh := .call [(k0, .cells (Zb E_iiiiiiAi L0) 27)] (vs n 0 L0.length L0.length) [(n, some (.cells (Zb E_iiiiiiAi L0) 27))] 1
def ZbU (A : Array Value) (L0 : List R_iiiiiiAi) (k0 n : Nat) : Prop := Z3 Tryz.prog 14 A [(k0, .cells (Zb E_iiiiiiAi L0) 27)] (vs n 0 L0.length L0.length) [(n, some (.cells (Zb E_iiiiiiAi L0) 27))] n 1

theorem ZdO (A : Array Value) (L0 : List R_iiiiiiAi) (N : Nat) (h : Z4 L0 N = some (.r1)) (k0 n : Nat) (hA : A = #[vs k0 0 L0.length L0.length]) (hnd : ([k0] : List Nat).Nodup) (hlt : ∀ k ∈ ([k0] : List Nat), k < n) : ZbU A L0 k0 n :=
 Zal hA (LSpec.callL (show LSpec Tryz.prog 14 #[vs 0 0 L0.length L0.length] [.cells (Zb E_iiiiiiAi L0) 27] (vs 1 0 L0.length L0.length) [some (.cells (Zb E_iiiiiiAi L0) 27), some (.cells (Zb E_iiiiiiAi L0) 27)] from Zb5 L0 N _ h) [k0] n [1] rfl hnd hlt (show 1 ≤ 2 from by decide) (show ∀ j ∈ ([1] : List Nat), j < 2 from by decide) (by rfl) ⟨(Zy _ _ _), trivial⟩ (by rfl) ⟨(Zy _ _ _), ⟨(Zy _ _ _), trivial⟩⟩ ⟨.inr rfl, ⟨(by decide), trivial⟩⟩ rfl rfl rfl (ZaS (ZaT rfl (Za9 _ _ _)) rfl) (ZaS (ZaT rfl (ZhF (Za9 _ _ _))) rfl))

noncomputable def Zd4 (L0 : List R_iiiiiiAi) : ZL → Value
 | .r0 w0 => vtt
noncomputable def Zdx (L0 : List R_iiiiiiAi) : ZL → List (Option AObj)
 | .r0 w0 => [some (.cells (Zb E_iiiiiiAi w0) 27)]

theorem ZcI (L0 : List R_iiiiiiAi) (N : Nat) (r : ZL) (h : Z6 L0 N = some r) : LSpec Tryz.prog 15 #[vs 0 0 L0.length L0.length, Value.func (.func 16) #[] #[]] [.cells (Zb E_iiiiiiAi L0) 27] (Zd4 L0 r) (Zdx L0 r) := by
 unfold Z6 at h
 by_cases h1 : (Zdq ZX L0).Pairwise (fun a b => ZX a < ZX b) ∧ L0.length ≤ 100000
 · rw [if_pos h1] at h
   obtain rfl := (Option.some.inj h).symm
   exact ZqV (E := E_iiiiiiAi) (L := L0) ZoL rfl (key := ZX) (fun _ => rfl) (ZcA ZX L0) h1.1 h1.2
 · rw [if_neg h1] at h; cases h

noncomputable def Zdy (L0 w0 : List R_iiiiiiAi) (k0 n : Nat) : Zbh := .call [(k0, .cells (Zb E_iiiiiiAi L0) 27)] (vtt) [(k0, some (.cells (Zb E_iiiiiiAi w0) 27))] 0
def Zb6 (A : Array Value) (L0 w0 : List R_iiiiiiAi) (k0 n : Nat) : Prop := Z3 Tryz.prog 15 A [(k0, .cells (Zb E_iiiiiiAi L0) 27)] (vtt) [(k0, some (.cells (Zb E_iiiiiiAi w0) 27))] n 0

theorem Zdz (A : Array Value) (L0 w0 : List R_iiiiiiAi) (N : Nat) (h : Z6 L0 N = some (.r0 w0)) (k0 n : Nat) (hA : A = #[vs k0 0 L0.length L0.length, Value.func (.func 16) #[] #[]]) (hnd : ([k0] : List Nat).Nodup) (hlt : ∀ k ∈ ([k0] : List Nat), k < n) : Zb6 A L0 w0 k0 n :=
 Zal hA (LSpec.callL (show LSpec Tryz.prog 15 #[vs 0 0 L0.length L0.length, Value.func (.func 16) #[] #[]] [.cells (Zb E_iiiiiiAi L0) 27] (vtt) [some (.cells (Zb E_iiiiiiAi w0) 27)] from ZcI L0 N _ h) [k0] n [0] rfl hnd hlt (show 1 ≤ 1 from by decide) (show ∀ j ∈ ([0] : List Nat), j < 1 from by decide) (by rfl) ⟨(Zy _ _ _), trivial⟩ (by rfl) ⟨(Zy _ _ _), trivial⟩ ⟨.inl (by decide), trivial⟩ rfl rfl rfl (ZaS (ZaT rfl (Za9 _ _ _)) rfl) (ZaS (ZaT rfl (ZhF (Za9 _ _ _))) rfl))

noncomputable def Zfr (L0 : List R_ii) : Zax → Value
 | .r0 => ms E_ii L0
noncomputable def ZeT (L0 : List R_ii) : Zax → List (Option AObj)
 | .r0 => []

theorem Zes (L0 : List R_ii) (N : Nat) (r : Zax) (h : Za4 L0 N = some r) : LSpec Tryz.prog 18 #[ms E_ii L0] [] (Zfr L0 r) (ZeT L0 r) := by
 unfold Za4 at h
 by_cases h1 : L0.length ≤ 100000
 · rw [if_pos h1] at h
   obtain rfl := (Option.some.inj h).symm
   exact ZrC (E := E_ii) (L := L0) ZqX (Nat.le_trans h1 (by decide)) (by show L0.length * 16 ≤ _; omega)
 · rw [if_neg h1] at h; cases h

noncomputable def ZeU (L0 : List R_ii) (n : Nat) : Zbh := .call [] (ms E_ii L0) [] 0
def Zc0 (A : Array Value) (L0 : List R_ii) (n : Nat) : Prop := Z3 Tryz.prog 18 A [] (ms E_ii L0) [] n 0

theorem ZeV (A : Array Value) (L0 : List R_ii) (N : Nat) (h : Za4 L0 N = some (.r0)) (n : Nat) (hA : A = #[ms E_ii L0]) (hnd : ([] : List Nat).Nodup) (hlt : ∀ k ∈ ([] : List Nat), k < n) : Zc0 A L0  n :=
 Zal hA (LSpec.callL (show LSpec Tryz.prog 18 #[ms E_ii L0] [] (ms E_ii L0) [] from Zes L0 N _ h) [] n [] rfl hnd hlt (show 0 ≤ 0 from by decide) (show ∀ j ∈ ([] : List Nat), j < 0 from by decide) (by rfl) trivial (by rfl) trivial trivial rfl rfl rfl rfl rfl)

noncomputable def Zi4 (L0 : List R_iiiiiiAi) : ZY → Value
 | .r0 => Value.tuple #[vn, vi (220 : Int)]
 | .r1 => Value.tuple #[ms E_iiiiiiAi ([] : List R_iiiiiiAi), vq]
 | .r2 w1 => Value.tuple #[vs 1 0 L0.length L0.length, vq]
noncomputable def ZhL (L0 : List R_iiiiiiAi) : ZY → List (Option AObj)
 | .r0 => [some (.cells (Zb E_iiiiiiAi L0) 27)]
 | .r1 => [some (.cells (Zb E_iiiiiiAi L0) 27)]
 | .r2 w1 => [some (.cells (Zb E_iiiiiiAi L0) 27), some (.cells (Zb E_iiiiiiAi w1) 27)]

def ZlQ : Z0 → Nat
 | .h1m0 => 1
 | .h1m1 v1 v4 => 1
noncomputable def Zm0 (L0 : List R_iiiiiiAi) : Z0 → List (Nat × Value)
 | .h1m0 => [(4, ms E_iiiiiiAi ([] : List R_iiiiiiAi)), (14, vq), (15, vq)]
 | .h1m1 v1 v4 => [(4, vs 1 0 L0.length L0.length), (14, vi (L0.length : Int)), (15, vi (v4 : Int))]
noncomputable def Zm1 (L0 : List R_iiiiiiAi) : Z0 → List (Option AObj)
 | .h1m0 => [some (.cells (Zb E_iiiiiiAi L0) 27)]
 | .h1m1 v1 v4 => [some (.cells (Zb E_iiiiiiAi L0) 27), some (.cells (Zb E_iiiiiiAi v1) 27)]

noncomputable def Zbl : Nat → Code × List Zap
 | 1 => ZaU [1, 1, 1, 1, 0, 1, 3] (ZbW Tryz.f6) []
 | _ => (.skip, [])
def ZhM : Nat → Bool
 | 1 => true
 | _ => true
noncomputable def Zm2 (i : Nat) : List Zap := match ZhM i with | true => .rnd i :: (Zbl i).2 | false => (Zbl i).2

noncomputable def Zas (L0 : List R_iiiiiiAi) (N : Nat) : Mach := ⟨Tryz.f6, [.cells (Zb E_iiiiiiAi L0) 27], Z0, ZY, Zbm L0 N, ZlQ, Zbl, ZhM, Zm0 L0, Zm1 L0, Zi4 L0, ZhL L0⟩

theorem Zjr (L0 : List R_iiiiiiAi) (N : Nat) : (Zas L0 N).Ok Tryz.prog Zp (.h1m0 : Z0) (Zbm L0 N (.h1m0 : Z0)) := by
 show (Zas L0 N).Ok Tryz.prog Zp (.h1m0 : Z0) (Zem L0 N)
 unfold Zem
 exact Mach.ok_fin (M := Zas L0 N) (cd := 1000000) (cm := 0) (r := (.r1 : ZY)) (fu := 4000) (orc := (Zm [] [] [] [] [])) (live := [0]) (u := Value.tuple #[ms E_iiiiiiAi ([] : List R_iiiiiiAi), vq]) (bl := [some (.cells (Zb E_iiiiiiAi L0) 27)]) (ob := []) (fun gv => by kernel_rfl) Zf rfl (by decide) (by rfl) rr ⟨(Zi (E := E_iiiiiiAi) (α := R_iiiiiiAi) _ L0 _), trivial⟩

theorem Zjs (L0 v1 : List R_iiiiiiAi) (v4 N : Nat) : (Zas L0 N).Ok Tryz.prog Zp (.h1m1 v1 v4 : Z0) (Zbm L0 N (.h1m1 v1 v4 : Z0)) := by
 show (Zas L0 N).Ok Tryz.prog Zp (.h1m1 v1 v4 : Z0) (Zbc L0 N v1 v4)
 unfold Zbc
 refine Mach.ok_ite (fun g0 => ?_) (fun g0 => ?_)
 ·
  refine Mach.ok_ite (fun g1 => ?_) (fun g1 => ?_)
  ·
   refine Mach.ok_bind (fun z2 c2 => ?_)
   cases z2 with
   | r0 =>
    refine Mach.ok_ite (fun g3 => ?_) (fun g3 => ?_)
    ·
     exact Mach.ok_next (M := Zas L0 N) (cd := 1000000) (cm := 0) (y := (.h1m1 ((v1.set v4 (⟨(v1.getD v4 R_iiiiiiAi.z).a0, (v1.getD v4 R_iiiiiiAi.z).a1, (v1.getD v4 R_iiiiiiAi.z).a2, (v1.getD v4 R_iiiiiiAi.z).a3, (v1.getD v4 R_iiiiiiAi.z).a4, (v1.getD v4 R_iiiiiiAi.z).a5, (v1.getD v4 R_iiiiiiAi.z).a6, (v1.getD v4 R_iiiiiiAi.z).a7⟩ : R_iiiiiiAi))) ((v4 + 1)) : Z0)) (fu := 4000) (orc := (Zm [(0, true)] [(0, (((v4 + 1) : Nat) : Int))] [(0, v4), (1, v4)] [(0, [(mc E_ii (v1.getD v4 R_iiiiiiAi.z).a6)])] [(0, (ZeU ((v1.getD v4 R_iiiiiiAi.z).a6)    2)), (1, .st (Zb E_iiiiiiAi (v1.set v4 (⟨(v1.getD v4 R_iiiiiiAi.z).a0, (v1.getD v4 R_iiiiiiAi.z).a1, (v1.getD v4 R_iiiiiiAi.z).a2, (v1.getD v4 R_iiiiiiAi.z).a3, (v1.getD v4 R_iiiiiiAi.z).a4, (v1.getD v4 R_iiiiiiAi.z).a5, (v1.getD v4 R_iiiiiiAi.z).a6, (v1.getD v4 R_iiiiiiAi.z).a7⟩ : R_iiiiiiAi))))])) (live := [0, 1]) (tv := fun _ => [some (vs 1 0 L0.length L0.length), some (vi (L0.length : Int)), some (vi (((v4 + 1) : Nat) : Int))]) (bl := [some (.cells (Zb E_iiiiiiAi L0) 27), some (.cells (Zb E_iiiiiiAi (v1.set v4 (⟨(v1.getD v4 R_iiiiiiAi.z).a0, (v1.getD v4 R_iiiiiiAi.z).a1, (v1.getD v4 R_iiiiiiAi.z).a2, (v1.getD v4 R_iiiiiiAi.z).a3, (v1.getD v4 R_iiiiiiAi.z).a4, (v1.getD v4 R_iiiiiiAi.z).a5, (v1.getD v4 R_iiiiiiAi.z).a6, (v1.getD v4 R_iiiiiiAi.z).a7⟩ : R_iiiiiiAi))) 27)]) (ob := [((IntKind.i64.wrap ((v4 : Int) + (1 : Int))) == (((v4 + 1) : Nat) : Int), true), (dP (((0 + (v4 * 8)) + 6) + ([ms E_ii (v1.getD v4 R_iiiiiiAi.z).a6] : List Value).length ≤ ((Zb E_iiiiiiAi v1) : List Value).length ∧ ZeW (Zb E_iiiiiiAi v1) ((0 + (v4 * 8)) + 6) [ms E_ii (v1.getD v4 R_iiiiiiAi.z).a6] = (Zb E_iiiiiiAi (v1.set v4 (⟨(v1.getD v4 R_iiiiiiAi.z).a0, (v1.getD v4 R_iiiiiiAi.z).a1, (v1.getD v4 R_iiiiiiAi.z).a2, (v1.getD v4 R_iiiiiiAi.z).a3, (v1.getD v4 R_iiiiiiAi.z).a4, (v1.getD v4 R_iiiiiiAi.z).a5, (v1.getD v4 R_iiiiiiAi.z).a6, (v1.getD v4 R_iiiiiiAi.z).a7⟩ : R_iiiiiiAi)))), true), (Nat.blt v4 L0.length, true), ((v4 : Int) == Int.ofNat v4, true), (dP (Zc0 #[ms E_ii (v1.getD v4 R_iiiiiiAi.z).a6] ((v1.getD v4 R_iiiiiiAi.z).a6)    2), true), (Z1 (Zl 1 (List.drop ((0 + (v4 * 8)) + 6) (Zb E_iiiiiiAi v1))) [(mc E_ii (v1.getD v4 R_iiiiiiAi.z).a6)], true), (Nat.blt v4 L0.length, true), ((v4 : Int) == Int.ofNat v4, true), ((decide ((v4 : Int) < (L0.length : Int))), true)]) rfl (show 1 ∈ Zv (Zm2 1) from by decide +kernel) (fun gv => by kernel_rfl) (Za (beq_iff_eq.2 ((wrap_i64 ltA).trans (by first | rfl | omega))) <| Za (Ze (ZqM (E := E_iiiiiiAi) (L := v1) (i := v4) (q := 6) (l := [ms E_ii (v1.getD v4 R_iiiiiiAi.z).a6]) (⟨(v1.getD v4 R_iiiiiiAi.z).a0, (v1.getD v4 R_iiiiiiAi.z).a1, (v1.getD v4 R_iiiiiiAi.z).a2, (v1.getD v4 R_iiiiiiAi.z).a3, (v1.getD v4 R_iiiiiiAi.z).a4, (v1.getD v4 R_iiiiiiAi.z).a5, (v1.getD v4 R_iiiiiiAi.z).a6, (v1.getD v4 R_iiiiiiAi.z).a7⟩ : R_iiiiiiAi) (by omega) (show ((0 + (v4 * 8)) + 6) = v4 * 8 + 6 from by omega) (show 6 + 1 ≤ 8 from by decide) rfl)) <| oB <| oI <| Za (Ze (ZeV #[ms E_ii (v1.getD v4 R_iiiiiiAi.z).a6] ((v1.getD v4 R_iiiiiiAi.z).a6)   N c2  2 rfl (by decide) (by decide))) <| Za (Zo (E := E_iiiiiiAi) (L := v1) (i := v4) (q := 6) (by omega) (show ((0 + (v4 * 8)) + 6) = v4 * 8 + 6 from by omega) (show 6 + 1 ≤ 8 from by decide) rfl rfl) <| oB <| oI <| oY Zf) rfl (by decide) (by rfl) (fun _ => ⟨rr, ⟨rr, ⟨rr, trivial⟩⟩⟩) ⟨(Zi (E := E_iiiiiiAi) (α := R_iiiiiiAi) _ L0 _), ⟨(Zi (E := E_iiiiiiAi) (α := R_iiiiiiAi) _ (v1.set v4 (⟨(v1.getD v4 R_iiiiiiAi.z).a0, (v1.getD v4 R_iiiiiiAi.z).a1, (v1.getD v4 R_iiiiiiAi.z).a2, (v1.getD v4 R_iiiiiiAi.z).a3, (v1.getD v4 R_iiiiiiAi.z).a4, (v1.getD v4 R_iiiiiiAi.z).a5, (v1.getD v4 R_iiiiiiAi.z).a6, (v1.getD v4 R_iiiiiiAi.z).a7⟩ : R_iiiiiiAi)) _), trivial⟩⟩
    ·
     exact Mach.ok_none
  ·
   exact Mach.ok_none
 ·
  exact Mach.ok_fin (M := Zas L0 N) (cd := 1000000) (cm := 0) (r := (.r2 (v1) : ZY)) (fu := 4000) (orc := (Zm [(0, false)] [] [] [] [])) (live := [0, 1]) (u := Value.tuple #[vs 1 0 L0.length L0.length, vq]) (bl := [some (.cells (Zb E_iiiiiiAi L0) 27), some (.cells (Zb E_iiiiiiAi v1) 27)]) (ob := [((decide ((v4 : Int) < (L0.length : Int))), false)]) (fun gv => by kernel_rfl) (oN Zf) rfl (by decide) (by rfl) rr ⟨(Zi (E := E_iiiiiiAi) (α := R_iiiiiiAi) _ L0 _), ⟨(Zi (E := E_iiiiiiAi) (α := R_iiiiiiAi) _ v1 _), trivial⟩⟩

theorem Zl0 (L0 : List R_iiiiiiAi) (N : Nat) : (Zas L0 N).Enter Tryz.prog Zp #[vs 0 0 L0.length L0.length] (Zcp L0 N) := by
 unfold Zcp
 refine Mach.en_bind (fun z0 c0 => ?_)
 cases z0 with
 | r0 y0_0 =>
  refine Mach.en_ite (fun g1 => ?_) (fun g1 => ?_)
  ·
   exact Mach.en_fin (M := Zas L0 N) (cd := 1000000) (cm := 0) (r := (.r0 : ZY)) (fu := 4000) (orc := (Zm [(0, true)] [] [] [] [(0, (ZeI (L0)  y0_0 0 1))])) (live := [0]) (u := Value.tuple #[vn, vi (220 : Int)]) (bl := [some (.cells (Zb E_iiiiiiAi L0) 27)]) (ob := [((!y0_0), true), (dP (Zdw #[vs 0 0 L0.length L0.length] (L0)  y0_0 0 1), true), (dS (Zb E_iiiiiiAi L0), true)]) (by kernel_rfl) (Za (Zjk (by first | assumption | simp_all)) <| Za (Ze (ZeJ #[vs 0 0 L0.length L0.length] (L0)  y0_0 N c0 0 1 rfl (by decide) (by decide))) <| oR Zf) rfl (by decide) (by rfl) rr ⟨(Zi (E := E_iiiiiiAi) (α := R_iiiiiiAi) _ L0 _), trivial⟩
  ·
   refine Mach.en_bind (fun z2 c2 => ?_)
   cases z2 with
   | r0 =>
    refine Mach.en_bind (fun z3 c3 => ?_)
    cases z3 with
    | r0 =>
     exact Mach.en_head (bK := Zbl 1) (M := Zas L0 N) (cd := 1000000) (cm := 0) (y := (.h1m0 : Z0)) (fu := 4000) (orc := (Zm [(0, false)] [] [] [] [(0, (ZeI (L0)  y0_0 0 1)), (1, (ZdL (L0)   0 1)), (2, (ZbH (([] : List R_iiiiiiAi))    1))])) (live := [0]) (tv := [some (ms E_iiiiiiAi ([] : List R_iiiiiiAi)), some (vq), some (vq)]) (bl := [some (.cells (Zb E_iiiiiiAi L0) 27)]) (ob := [(dP (ZaO #[ms E_iiiiiiAi ([] : List R_iiiiiiAi), Value.func (.func 16) #[] #[]] (([] : List R_iiiiiiAi))    1), true), (dP (ZbT #[vs 0 0 L0.length L0.length] (L0)   0 1), true), (dS (Zb E_iiiiiiAi L0), true), ((!y0_0), false), (dP (Zdw #[vs 0 0 L0.length L0.length] (L0)  y0_0 0 1), true), (dS (Zb E_iiiiiiAi L0), true)]) rfl rfl (show Zv (Zbl 1).2 = [] from rfl) (by kernel_rfl) (Za (Ze (ZbI #[ms E_iiiiiiAi ([] : List R_iiiiiiAi), Value.func (.func 16) #[] #[]] (([] : List R_iiiiiiAi))   N c3  1 rfl (by decide) (by decide))) <| Za (Ze (ZdM #[vs 0 0 L0.length L0.length] (L0)   N c2 0 1 rfl (by decide) (by decide))) <| oR <| Za (ZhG (by first | assumption | exact Decidable.not_not.1 (by assumption) | simp_all)) <| Za (Ze (ZeJ #[vs 0 0 L0.length L0.length] (L0)  y0_0 N c0 0 1 rfl (by decide) (by decide))) <| oR Zf) rfl (by decide) (by rfl) ⟨rr, ⟨rr, ⟨rr, trivial⟩⟩⟩ ⟨(Zi (E := E_iiiiiiAi) (α := R_iiiiiiAi) _ L0 _), trivial⟩
   | r1 =>
    refine Mach.en_bind (fun z3 c3 => ?_)
    cases z3 with
    | r0 y3_0 =>
     exact Mach.en_head (bK := Zbl 1) (M := Zas L0 N) (cd := 1000000) (cm := 0) (y := (.h1m1 (y3_0) (0) : Z0)) (fu := 4000) (orc := (Zm [(0, false)] [] [] [] [(0, (ZeI (L0)  y0_0 0 1)), (1, (ZdN (L0)   0 1)), (2, (Zdy (L0)  y3_0 1 2))])) (live := [0, 1]) (tv := [some (vs 1 0 L0.length L0.length), some (vi (L0.length : Int)), some (vq)]) (bl := [some (.cells (Zb E_iiiiiiAi L0) 27), some (.cells (Zb E_iiiiiiAi y3_0) 27)]) (ob := [(dP (Zb6 #[vs 1 0 L0.length L0.length, Value.func (.func 16) #[] #[]] (L0)  y3_0 1 2), true), (dS (Zb E_iiiiiiAi L0), true), (dP (ZbU #[vs 0 0 L0.length L0.length] (L0)   0 1), true), (dS (Zb E_iiiiiiAi L0), true), ((!y0_0), false), (dP (Zdw #[vs 0 0 L0.length L0.length] (L0)  y0_0 0 1), true), (dS (Zb E_iiiiiiAi L0), true)]) rfl rfl (show Zv (Zbl 1).2 = [] from rfl) (by kernel_rfl) (Za (Ze (Zdz #[vs 1 0 L0.length L0.length, Value.func (.func 16) #[] #[]] (L0)  y3_0 N c3 1 2 rfl (by decide) (by decide))) <| oR <| Za (Ze (ZdO #[vs 0 0 L0.length L0.length] (L0)   N c2 0 1 rfl (by decide) (by decide))) <| oR <| Za (ZhG (by first | assumption | exact Decidable.not_not.1 (by assumption) | simp_all)) <| Za (Ze (ZeJ #[vs 0 0 L0.length L0.length] (L0)  y0_0 N c0 0 1 rfl (by decide) (by decide))) <| oR Zf) rfl (by decide) (by rfl) ⟨rr, ⟨rr, ⟨⟨Eq.trans (show (vi ((0 : Nat) : Int) : Value) = vq from (congrArg (Value.int .i64) (by first | rfl | omega))) (by rfl), by rfl⟩, trivial⟩⟩⟩ ⟨(Zi (E := E_iiiiiiAi) (α := R_iiiiiiAi) _ L0 _), ⟨(Zi (E := E_iiiiiiAi) (α := R_iiiiiiAi) _ y3_0 _), trivial⟩⟩

theorem Zet (L0 : List R_iiiiiiAi) (N : Nat) (r : ZY) (h : Zcv L0 N = some r) : LSpec Tryz.prog 6 #[vs 0 0 L0.length L0.length] [.cells (Zb E_iiiiiiAi L0) 27] (Zi4 L0 r) (ZhL L0 r) :=
 Mach.spec ZbX (Zas L0 N) Tryz.func6 (by kernel_rfl) (by kernel_rfl) (fun x => by cases x <;> exact Zad _ rfl) (fun r => by cases r <;> exact Zad _ rfl) (fun x => by
  cases x with
  | h1m0 => exact fun _ => (show ¬ (1 ∈ Zv (Zbl 1).2) from by decide +kernel)
  | h1m1 _ _ => exact fun _ => (show ¬ (1 ∈ Zv (Zbl 1).2) from by decide +kernel)
  ) (fun x => (show (Zas L0 N).Ok Tryz.prog Zp x (Zbm L0 N x) from by
  cases x with
  | h1m0 => exact Zjr L0 N
  | h1m1 v1 v4 => exact Zjs L0 v1 v4 N
  )) (Zl0 L0 N) (n := N) h

noncomputable def Zda (L0 : List R_iiiiiiAi) (k0 n : Nat) : Zbh := .call [(k0, .cells (Zb E_iiiiiiAi L0) 27)] (Value.tuple #[vn, vi (220 : Int)]) [] 0
def Zcq (A : Array Value) (L0 : List R_iiiiiiAi) (k0 n : Nat) : Prop := Z3 Tryz.prog 6 A [(k0, .cells (Zb E_iiiiiiAi L0) 27)] (Value.tuple #[vn, vi (220 : Int)]) [] n 0

theorem Zdb (A : Array Value) (L0 : List R_iiiiiiAi) (N : Nat) (h : Zcv L0 N = some (.r0)) (k0 n : Nat) (hA : A = #[vs k0 0 L0.length L0.length]) (hnd : ([k0] : List Nat).Nodup) (hlt : ∀ k ∈ ([k0] : List Nat), k < n) : Zcq A L0 k0 n :=
 Zal hA (LSpec.callL (show LSpec Tryz.prog 6 #[vs 0 0 L0.length L0.length] [.cells (Zb E_iiiiiiAi L0) 27] (Value.tuple #[vn, vi (220 : Int)]) [some (.cells (Zb E_iiiiiiAi L0) 27)] from Zet L0 N _ h) [k0] n [] rfl hnd hlt (show 1 ≤ 1 from by decide) (show ∀ j ∈ ([] : List Nat), j < 1 from by decide) (by rfl) ⟨(Zy _ _ _), trivial⟩ (by rfl) ⟨(Zy _ _ _), trivial⟩ ⟨.inr rfl, trivial⟩ rfl rfl rfl (ZaS (ZaT rfl (Za9 _ _ _)) rfl) rfl)

noncomputable def ZbN (L0 : List R_iiiiiiAi) (k0 n : Nat) : Zbh := .call [(k0, .cells (Zb E_iiiiiiAi L0) 27)] (Value.tuple #[ms E_iiiiiiAi ([] : List R_iiiiiiAi), vq]) [] 0
def Zbq (A : Array Value) (L0 : List R_iiiiiiAi) (k0 n : Nat) : Prop := Z3 Tryz.prog 6 A [(k0, .cells (Zb E_iiiiiiAi L0) 27)] (Value.tuple #[ms E_iiiiiiAi ([] : List R_iiiiiiAi), vq]) [] n 0

theorem ZbO (A : Array Value) (L0 : List R_iiiiiiAi) (N : Nat) (h : Zcv L0 N = some (.r1)) (k0 n : Nat) (hA : A = #[vs k0 0 L0.length L0.length]) (hnd : ([k0] : List Nat).Nodup) (hlt : ∀ k ∈ ([k0] : List Nat), k < n) : Zbq A L0 k0 n :=
 Zal hA (LSpec.callL (show LSpec Tryz.prog 6 #[vs 0 0 L0.length L0.length] [.cells (Zb E_iiiiiiAi L0) 27] (Value.tuple #[ms E_iiiiiiAi ([] : List R_iiiiiiAi), vq]) [some (.cells (Zb E_iiiiiiAi L0) 27)] from Zet L0 N _ h) [k0] n [] rfl hnd hlt (show 1 ≤ 1 from by decide) (show ∀ j ∈ ([] : List Nat), j < 1 from by decide) (by rfl) ⟨(Zy _ _ _), trivial⟩ (by rfl) ⟨(Zy _ _ _), trivial⟩ ⟨.inr rfl, trivial⟩ rfl rfl rfl (ZaS (ZaT rfl (Za9 _ _ _)) rfl) rfl)

noncomputable def ZbP (L0 w1 : List R_iiiiiiAi) (k0 n : Nat) : Zbh := .call [(k0, .cells (Zb E_iiiiiiAi L0) 27)] (Value.tuple #[vs n 0 L0.length L0.length, vq]) [(n, some (.cells (Zb E_iiiiiiAi w1) 27))] 1
def Zbr (A : Array Value) (L0 w1 : List R_iiiiiiAi) (k0 n : Nat) : Prop := Z3 Tryz.prog 6 A [(k0, .cells (Zb E_iiiiiiAi L0) 27)] (Value.tuple #[vs n 0 L0.length L0.length, vq]) [(n, some (.cells (Zb E_iiiiiiAi w1) 27))] n 1

theorem ZbQ (A : Array Value) (L0 w1 : List R_iiiiiiAi) (N : Nat) (h : Zcv L0 N = some (.r2 w1)) (k0 n : Nat) (hA : A = #[vs k0 0 L0.length L0.length]) (hnd : ([k0] : List Nat).Nodup) (hlt : ∀ k ∈ ([k0] : List Nat), k < n) : Zbr A L0 w1 k0 n :=
 Zal hA (LSpec.callL (show LSpec Tryz.prog 6 #[vs 0 0 L0.length L0.length] [.cells (Zb E_iiiiiiAi L0) 27] (Value.tuple #[vs 1 0 L0.length L0.length, vq]) [some (.cells (Zb E_iiiiiiAi L0) 27), some (.cells (Zb E_iiiiiiAi w1) 27)] from Zet L0 N _ h) [k0] n [1] rfl hnd hlt (show 1 ≤ 2 from by decide) (show ∀ j ∈ ([1] : List Nat), j < 2 from by decide) (by rfl) ⟨(Zy _ _ _), trivial⟩ (by rfl) ⟨(Zy _ _ _), ⟨(Zy _ _ _), trivial⟩⟩ ⟨.inr rfl, ⟨(by decide), trivial⟩⟩ rfl rfl rfl (ZaS (ZaT rfl (Za9 _ _ _)) rfl) (ZaS (ZaT rfl (ZhF (Za9 _ _ _))) rfl))

noncomputable def Zjt (L0 : List R_iiiiiiAi) (a1 : Int) : Zz → Value
 | .r0 w1 => Value.bool w1
noncomputable def Zi5 (L0 : List R_iiiiiiAi) (a1 : Int) : Zz → List (Option AObj)
 | .r0 w1 => [some (.cells (Zb E_iiiiiiAi L0) 27)]

def Zm3 : ZE → Nat
 | .h1m0 v1 v2 => 1
noncomputable def ZnG (L0 : List R_iiiiiiAi) (a1 : Int) : ZE → List (Nat × Value)
 | .h1m0 v1 v2 => [(0, vs 0 0 L0.length L0.length), (5, vp 1 0), (6, Value.bool v1), (7, vi v2)]
noncomputable def ZnH (L0 : List R_iiiiiiAi) (a1 : Int) : ZE → List (Option AObj)
 | .h1m0 v1 v2 => [some (.cells (Zb E_iiiiiiAi L0) 27), some (.cells [vi (L0.getD (a1).toNat R_iiiiiiAi.z).a0, vi (L0.getD (a1).toNat R_iiiiiiAi.z).a1, vi (L0.getD (a1).toNat R_iiiiiiAi.z).a2, vi (L0.getD (a1).toNat R_iiiiiiAi.z).a3, vi (L0.getD (a1).toNat R_iiiiiiAi.z).a4, vi (L0.getD (a1).toNat R_iiiiiiAi.z).a5, ms E_ii (L0.getD (a1).toNat R_iiiiiiAi.z).a6, vi (L0.getD (a1).toNat R_iiiiiiAi.z).a7] 27)]

noncomputable def Zdc : Nat → Code × List Zap
 | 1 => ZaU [1, 1, 1, 1, 0, 1, 3] (ZbW Tryz.f19) []
 | _ => (.skip, [])
def Zi6 : Nat → Bool
 | 1 => true
 | _ => true
noncomputable def Zfs (i : Nat) : List Zap := match Zi6 i with | true => .rnd i :: (Zdc i).2 | false => (Zdc i).2

noncomputable def ZN (L0 : List R_iiiiiiAi) (a1 : Int) (N : Nat) : Mach := ⟨Tryz.f19, [.cells (Zb E_iiiiiiAi L0) 27], ZE, Zz, Zay L0 a1 N, Zm3, Zdc, Zi6, ZnG L0 a1, ZnH L0 a1, Zjt L0 a1, Zi5 L0 a1⟩

theorem ZjO (L0 : List R_iiiiiiAi) (a1 : Int) (v1 : Bool) (v2 : Int) (N : Nat) : (ZN L0 a1 N).Ok Tryz.prog Zp (.h1m0 v1 v2 : ZE) (Zay L0 a1 N (.h1m0 v1 v2 : ZE)) := by
 show (ZN L0 a1 N).Ok Tryz.prog Zp (.h1m0 v1 v2 : ZE) (Zai L0 a1 N v1 v2)
 unfold Zai
 refine Mach.ok_ite (fun g0 => ?_) (fun g0 => ?_)
 ·
  subst g0
  refine Mach.ok_ite (fun g1 => ?_) (fun g1 => ?_)
  ·
   refine Mach.ok_ite (fun g2 => ?_) (fun g2 => ?_)
   ·
    refine Mach.ok_ite (fun g3 => ?_) (fun g3 => ?_)
    ·
     exact Mach.ok_fin (M := ZN L0 a1 N) (cd := 1000000) (cm := 0) (r := (.r0 (false) : Zz)) (fu := 4000) (orc := (Zm [(0, true), (1, true)] [] [(0, (v2).toNat)] [(0, [.i (L0.getD (v2).toNat R_iiiiiiAi.z).a4])] [])) (live := [0]) (u := vf) (bl := [some (.cells (Zb E_iiiiiiAi L0) 27)]) (ob := [(((L0.getD (v2).toNat R_iiiiiiAi.z).a4 == (L0.getD (a1).toNat R_iiiiiiAi.z).a4), true), (Z1 (Zl 1 (List.drop ((0 + ((v2).toNat * 8)) + 4) (Zb E_iiiiiiAi L0))) [.i (L0.getD (v2).toNat R_iiiiiiAi.z).a4], true), (Nat.blt (v2).toNat L0.length, true), (v2 == Int.ofNat (v2).toNat, true), ((decide (v2 ≥ (0 : Int))), true)]) (fun gv => by kernel_rfl) (oT <| Za (Zo (E := E_iiiiiiAi) (L := L0) (i := (v2).toNat) (q := 4) (by omega) (show ((0 + ((v2).toNat * 8)) + 4) = (v2).toNat * 8 + 4 from by omega) (show 4 + 1 ≤ 8 from by decide) rfl rfl) <| oB <| oI <| oY Zf) rfl (by decide) (by rfl) rr ⟨(Zi (E := E_iiiiiiAi) (α := R_iiiiiiAi) _ L0 _), trivial⟩
    ·
     refine Mach.ok_ite (fun g4 => ?_) (fun g4 => ?_)
     ·
      refine Mach.ok_ite (fun g5 => ?_) (fun g5 => ?_)
      ·
       exact Mach.ok_fin (M := ZN L0 a1 N) (cd := 1000000) (cm := 0) (r := (.r0 (false) : Zz)) (fu := 4000) (orc := (Zm [(0, true), (1, false), (2, true), (3, true)] [] [(0, (v2).toNat), (1, (v2).toNat), (2, (v2).toNat)] [(0, [.i (L0.getD (v2).toNat R_iiiiiiAi.z).a4]), (2, [.i (L0.getD (v2).toNat R_iiiiiiAi.z).a1]), (4, [.i (L0.getD (v2).toNat R_iiiiiiAi.z).a5])] [])) (live := [0]) (u := vf) (bl := [some (.cells (Zb E_iiiiiiAi L0) 27)]) (ob := [((decide ((L0.getD (v2).toNat R_iiiiiiAi.z).a5 ≥ (L0.getD (a1).toNat R_iiiiiiAi.z).a3)), true), (Z1 (Zl 1 (List.drop ((0 + ((v2).toNat * 8)) + 5) (Zb E_iiiiiiAi L0))) [.i (L0.getD (v2).toNat R_iiiiiiAi.z).a5], true), (Nat.blt (v2).toNat L0.length, true), (v2 == Int.ofNat (v2).toNat, true), (((L0.getD (v2).toNat R_iiiiiiAi.z).a1 == (L0.getD (a1).toNat R_iiiiiiAi.z).a1), true), (Z1 (Zl 1 (List.drop ((0 + ((v2).toNat * 8)) + 1) (Zb E_iiiiiiAi L0))) [.i (L0.getD (v2).toNat R_iiiiiiAi.z).a1], true), (Nat.blt (v2).toNat L0.length, true), (v2 == Int.ofNat (v2).toNat, true), (((L0.getD (v2).toNat R_iiiiiiAi.z).a4 == (L0.getD (a1).toNat R_iiiiiiAi.z).a4), false), (Z1 (Zl 1 (List.drop ((0 + ((v2).toNat * 8)) + 4) (Zb E_iiiiiiAi L0))) [.i (L0.getD (v2).toNat R_iiiiiiAi.z).a4], true), (Nat.blt (v2).toNat L0.length, true), (v2 == Int.ofNat (v2).toNat, true), ((decide (v2 ≥ (0 : Int))), true)]) (fun gv => by kernel_rfl) (oY <| Za (Zo (E := E_iiiiiiAi) (L := L0) (i := (v2).toNat) (q := 5) (by omega) (show ((0 + ((v2).toNat * 8)) + 5) = (v2).toNat * 8 + 5 from by omega) (show 5 + 1 ≤ 8 from by decide) rfl rfl) <| oB <| oI <| oT <| Za (Zo (E := E_iiiiiiAi) (L := L0) (i := (v2).toNat) (q := 1) (by omega) (show ((0 + ((v2).toNat * 8)) + 1) = (v2).toNat * 8 + 1 from by omega) (show 1 + 1 ≤ 8 from by decide) rfl rfl) <| oB <| oI <| oF <| Za (Zo (E := E_iiiiiiAi) (L := L0) (i := (v2).toNat) (q := 4) (by omega) (show ((0 + ((v2).toNat * 8)) + 4) = (v2).toNat * 8 + 4 from by omega) (show 4 + 1 ≤ 8 from by decide) rfl rfl) <| oB <| oI <| oY Zf) rfl (by decide) (by rfl) rr ⟨(Zi (E := E_iiiiiiAi) (α := R_iiiiiiAi) _ L0 _), trivial⟩
      ·
       exact Mach.ok_next (M := ZN L0 a1 N) (cd := 1000000) (cm := 0) (y := (.h1m0 (false) ((IntKind.i64.wrap (v2 - (1 : Int)))) : ZE)) (fu := 4000) (orc := (Zm [(0, true), (1, false), (2, true), (3, false), (4, true)] [] [(0, (v2).toNat), (1, (v2).toNat), (2, (v2).toNat), (3, (v2).toNat)] [(0, [.i (L0.getD (v2).toNat R_iiiiiiAi.z).a4]), (2, [.i (L0.getD (v2).toNat R_iiiiiiAi.z).a1]), (4, [.i (L0.getD (v2).toNat R_iiiiiiAi.z).a5]), (6, [.i (L0.getD (v2).toNat R_iiiiiiAi.z).a1])] [])) (live := [0, 1]) (tv := fun _ => [some (vs 0 0 L0.length L0.length), some (vp 1 0), some (vf), some (vi (IntKind.i64.wrap (v2 - (1 : Int))))]) (bl := [some (.cells (Zb E_iiiiiiAi L0) 27), some (.cells [vi (L0.getD (a1).toNat R_iiiiiiAi.z).a0, vi (L0.getD (a1).toNat R_iiiiiiAi.z).a1, vi (L0.getD (a1).toNat R_iiiiiiAi.z).a2, vi (L0.getD (a1).toNat R_iiiiiiAi.z).a3, vi (L0.getD (a1).toNat R_iiiiiiAi.z).a4, vi (L0.getD (a1).toNat R_iiiiiiAi.z).a5, ms E_ii (L0.getD (a1).toNat R_iiiiiiAi.z).a6, vi (L0.getD (a1).toNat R_iiiiiiAi.z).a7] 27)]) (ob := [(((L0.getD (v2).toNat R_iiiiiiAi.z).a1 == (L0.getD (a1).toNat R_iiiiiiAi.z).a1), true), (Z1 (Zl 1 (List.drop ((0 + ((v2).toNat * 8)) + 1) (Zb E_iiiiiiAi L0))) [.i (L0.getD (v2).toNat R_iiiiiiAi.z).a1], true), (Nat.blt (v2).toNat L0.length, true), (v2 == Int.ofNat (v2).toNat, true), ((decide ((L0.getD (v2).toNat R_iiiiiiAi.z).a5 ≥ (L0.getD (a1).toNat R_iiiiiiAi.z).a3)), false), (Z1 (Zl 1 (List.drop ((0 + ((v2).toNat * 8)) + 5) (Zb E_iiiiiiAi L0))) [.i (L0.getD (v2).toNat R_iiiiiiAi.z).a5], true), (Nat.blt (v2).toNat L0.length, true), (v2 == Int.ofNat (v2).toNat, true), (((L0.getD (v2).toNat R_iiiiiiAi.z).a1 == (L0.getD (a1).toNat R_iiiiiiAi.z).a1), true), (Z1 (Zl 1 (List.drop ((0 + ((v2).toNat * 8)) + 1) (Zb E_iiiiiiAi L0))) [.i (L0.getD (v2).toNat R_iiiiiiAi.z).a1], true), (Nat.blt (v2).toNat L0.length, true), (v2 == Int.ofNat (v2).toNat, true), (((L0.getD (v2).toNat R_iiiiiiAi.z).a4 == (L0.getD (a1).toNat R_iiiiiiAi.z).a4), false), (Z1 (Zl 1 (List.drop ((0 + ((v2).toNat * 8)) + 4) (Zb E_iiiiiiAi L0))) [.i (L0.getD (v2).toNat R_iiiiiiAi.z).a4], true), (Nat.blt (v2).toNat L0.length, true), (v2 == Int.ofNat (v2).toNat, true), ((decide (v2 ≥ (0 : Int))), true)]) rfl (show 1 ∈ Zv (Zfs 1) from by decide +kernel) (fun gv => by kernel_rfl) (oT <| Za (Zo (E := E_iiiiiiAi) (L := L0) (i := (v2).toNat) (q := 1) (by omega) (show ((0 + ((v2).toNat * 8)) + 1) = (v2).toNat * 8 + 1 from by omega) (show 1 + 1 ≤ 8 from by decide) rfl rfl) <| oB <| oI <| oN <| Za (Zo (E := E_iiiiiiAi) (L := L0) (i := (v2).toNat) (q := 5) (by omega) (show ((0 + ((v2).toNat * 8)) + 5) = (v2).toNat * 8 + 5 from by omega) (show 5 + 1 ≤ 8 from by decide) rfl rfl) <| oB <| oI <| oT <| Za (Zo (E := E_iiiiiiAi) (L := L0) (i := (v2).toNat) (q := 1) (by omega) (show ((0 + ((v2).toNat * 8)) + 1) = (v2).toNat * 8 + 1 from by omega) (show 1 + 1 ≤ 8 from by decide) rfl rfl) <| oB <| oI <| oF <| Za (Zo (E := E_iiiiiiAi) (L := L0) (i := (v2).toNat) (q := 4) (by omega) (show ((0 + ((v2).toNat * 8)) + 4) = (v2).toNat * 8 + 4 from by omega) (show 4 + 1 ≤ 8 from by decide) rfl rfl) <| oB <| oI <| oY Zf) rfl (by decide) (by rfl) (fun _ => ⟨rr, ⟨rr, ⟨rr, ⟨rr, trivial⟩⟩⟩⟩) ⟨(Zi (E := E_iiiiiiAi) (α := R_iiiiiiAi) _ L0 _), ⟨⟨rfl, ⟨[], by rfl⟩, by rfl⟩, trivial⟩⟩
     ·
      exact Mach.ok_next (M := ZN L0 a1 N) (cd := 1000000) (cm := 0) (y := (.h1m0 (true) ((IntKind.i64.wrap (v2 - (1 : Int)))) : ZE)) (fu := 4000) (orc := (Zm [(0, true), (1, false), (2, false), (3, false)] [] [(0, (v2).toNat), (1, (v2).toNat), (2, (v2).toNat)] [(0, [.i (L0.getD (v2).toNat R_iiiiiiAi.z).a4]), (2, [.i (L0.getD (v2).toNat R_iiiiiiAi.z).a1]), (4, [.i (L0.getD (v2).toNat R_iiiiiiAi.z).a1])] [])) (live := [0, 1]) (tv := fun _ => [some (vs 0 0 L0.length L0.length), some (vp 1 0), some (vT), some (vi (IntKind.i64.wrap (v2 - (1 : Int))))]) (bl := [some (.cells (Zb E_iiiiiiAi L0) 27), some (.cells [vi (L0.getD (a1).toNat R_iiiiiiAi.z).a0, vi (L0.getD (a1).toNat R_iiiiiiAi.z).a1, vi (L0.getD (a1).toNat R_iiiiiiAi.z).a2, vi (L0.getD (a1).toNat R_iiiiiiAi.z).a3, vi (L0.getD (a1).toNat R_iiiiiiAi.z).a4, vi (L0.getD (a1).toNat R_iiiiiiAi.z).a5, ms E_ii (L0.getD (a1).toNat R_iiiiiiAi.z).a6, vi (L0.getD (a1).toNat R_iiiiiiAi.z).a7] 27)]) (ob := [(((L0.getD (v2).toNat R_iiiiiiAi.z).a1 == (L0.getD (a1).toNat R_iiiiiiAi.z).a1), false), (Z1 (Zl 1 (List.drop ((0 + ((v2).toNat * 8)) + 1) (Zb E_iiiiiiAi L0))) [.i (L0.getD (v2).toNat R_iiiiiiAi.z).a1], true), (Nat.blt (v2).toNat L0.length, true), (v2 == Int.ofNat (v2).toNat, true), (((L0.getD (v2).toNat R_iiiiiiAi.z).a1 == (L0.getD (a1).toNat R_iiiiiiAi.z).a1), false), (Z1 (Zl 1 (List.drop ((0 + ((v2).toNat * 8)) + 1) (Zb E_iiiiiiAi L0))) [.i (L0.getD (v2).toNat R_iiiiiiAi.z).a1], true), (Nat.blt (v2).toNat L0.length, true), (v2 == Int.ofNat (v2).toNat, true), (((L0.getD (v2).toNat R_iiiiiiAi.z).a4 == (L0.getD (a1).toNat R_iiiiiiAi.z).a4), false), (Z1 (Zl 1 (List.drop ((0 + ((v2).toNat * 8)) + 4) (Zb E_iiiiiiAi L0))) [.i (L0.getD (v2).toNat R_iiiiiiAi.z).a4], true), (Nat.blt (v2).toNat L0.length, true), (v2 == Int.ofNat (v2).toNat, true), ((decide (v2 ≥ (0 : Int))), true)]) rfl (show 1 ∈ Zv (Zfs 1) from by decide +kernel) (fun gv => by kernel_rfl) (oF <| Za (Zo (E := E_iiiiiiAi) (L := L0) (i := (v2).toNat) (q := 1) (by omega) (show ((0 + ((v2).toNat * 8)) + 1) = (v2).toNat * 8 + 1 from by omega) (show 1 + 1 ≤ 8 from by decide) rfl rfl) <| oB <| oI <| oF <| Za (Zo (E := E_iiiiiiAi) (L := L0) (i := (v2).toNat) (q := 1) (by omega) (show ((0 + ((v2).toNat * 8)) + 1) = (v2).toNat * 8 + 1 from by omega) (show 1 + 1 ≤ 8 from by decide) rfl rfl) <| oB <| oI <| oF <| Za (Zo (E := E_iiiiiiAi) (L := L0) (i := (v2).toNat) (q := 4) (by omega) (show ((0 + ((v2).toNat * 8)) + 4) = (v2).toNat * 8 + 4 from by omega) (show 4 + 1 ≤ 8 from by decide) rfl rfl) <| oB <| oI <| oY Zf) rfl (by decide) (by rfl) (fun _ => ⟨rr, ⟨rr, ⟨rr, ⟨rr, trivial⟩⟩⟩⟩) ⟨(Zi (E := E_iiiiiiAi) (α := R_iiiiiiAi) _ L0 _), ⟨⟨rfl, ⟨[], by rfl⟩, by rfl⟩, trivial⟩⟩
   ·
    exact Mach.ok_none
  ·
   exact Mach.ok_fin (M := ZN L0 a1 N) (cd := 1000000) (cm := 0) (r := (.r0 (true) : Zz)) (fu := 4000) (orc := (Zm [(0, false)] [] [] [] [])) (live := [0]) (u := vT) (bl := [some (.cells (Zb E_iiiiiiAi L0) 27)]) (ob := [((decide (v2 ≥ (0 : Int))), false)]) (fun gv => by kernel_rfl) (oN Zf) rfl (by decide) (by rfl) rr ⟨(Zi (E := E_iiiiiiAi) (α := R_iiiiiiAi) _ L0 _), trivial⟩
 ·
  obtain rfl : v1 = false := by simpa using g0
  refine Mach.ok_ite (fun g1 => ?_) (fun g1 => ?_)
  ·
   refine Mach.ok_ite (fun g2 => ?_) (fun g2 => ?_)
   ·
    refine Mach.ok_ite (fun g3 => ?_) (fun g3 => ?_)
    ·
     exact Mach.ok_fin (M := ZN L0 a1 N) (cd := 1000000) (cm := 0) (r := (.r0 (false) : Zz)) (fu := 4000) (orc := (Zm [(0, true), (1, true)] [] [(0, (v2).toNat)] [(0, [.i (L0.getD (v2).toNat R_iiiiiiAi.z).a4])] [])) (live := [0]) (u := vf) (bl := [some (.cells (Zb E_iiiiiiAi L0) 27)]) (ob := [(((L0.getD (v2).toNat R_iiiiiiAi.z).a4 == (L0.getD (a1).toNat R_iiiiiiAi.z).a4), true), (Z1 (Zl 1 (List.drop ((0 + ((v2).toNat * 8)) + 4) (Zb E_iiiiiiAi L0))) [.i (L0.getD (v2).toNat R_iiiiiiAi.z).a4], true), (Nat.blt (v2).toNat L0.length, true), (v2 == Int.ofNat (v2).toNat, true), ((decide (v2 ≥ (0 : Int))), true)]) (fun gv => by kernel_rfl) (oT <| Za (Zo (E := E_iiiiiiAi) (L := L0) (i := (v2).toNat) (q := 4) (by omega) (show ((0 + ((v2).toNat * 8)) + 4) = (v2).toNat * 8 + 4 from by omega) (show 4 + 1 ≤ 8 from by decide) rfl rfl) <| oB <| oI <| oY Zf) rfl (by decide) (by rfl) rr ⟨(Zi (E := E_iiiiiiAi) (α := R_iiiiiiAi) _ L0 _), trivial⟩
    ·
     by_cases g4 : (L0.getD (v2).toNat R_iiiiiiAi.z).a1 = (L0.getD (a1).toNat R_iiiiiiAi.z).a1
     ·
      exact Mach.ok_next (M := ZN L0 a1 N) (cd := 1000000) (cm := 0) (y := (.h1m0 (false) ((IntKind.i64.wrap (v2 - (1 : Int)))) : ZE)) (fu := 4000) (orc := (Zm [(0, true), (1, false), (2, true)] [] [(0, (v2).toNat), (1, (v2).toNat)] [(0, [.i (L0.getD (v2).toNat R_iiiiiiAi.z).a4]), (2, [.i (L0.getD (v2).toNat R_iiiiiiAi.z).a1])] [])) (live := [0, 1]) (tv := fun _ => [some (vs 0 0 L0.length L0.length), some (vp 1 0), some (vf), some (vi (IntKind.i64.wrap (v2 - (1 : Int))))]) (bl := [some (.cells (Zb E_iiiiiiAi L0) 27), some (.cells [vi (L0.getD (a1).toNat R_iiiiiiAi.z).a0, vi (L0.getD (a1).toNat R_iiiiiiAi.z).a1, vi (L0.getD (a1).toNat R_iiiiiiAi.z).a2, vi (L0.getD (a1).toNat R_iiiiiiAi.z).a3, vi (L0.getD (a1).toNat R_iiiiiiAi.z).a4, vi (L0.getD (a1).toNat R_iiiiiiAi.z).a5, ms E_ii (L0.getD (a1).toNat R_iiiiiiAi.z).a6, vi (L0.getD (a1).toNat R_iiiiiiAi.z).a7] 27)]) (ob := [(((L0.getD (v2).toNat R_iiiiiiAi.z).a1 == (L0.getD (a1).toNat R_iiiiiiAi.z).a1), true), (Z1 (Zl 1 (List.drop ((0 + ((v2).toNat * 8)) + 1) (Zb E_iiiiiiAi L0))) [.i (L0.getD (v2).toNat R_iiiiiiAi.z).a1], true), (Nat.blt (v2).toNat L0.length, true), (v2 == Int.ofNat (v2).toNat, true), (((L0.getD (v2).toNat R_iiiiiiAi.z).a4 == (L0.getD (a1).toNat R_iiiiiiAi.z).a4), false), (Z1 (Zl 1 (List.drop ((0 + ((v2).toNat * 8)) + 4) (Zb E_iiiiiiAi L0))) [.i (L0.getD (v2).toNat R_iiiiiiAi.z).a4], true), (Nat.blt (v2).toNat L0.length, true), (v2 == Int.ofNat (v2).toNat, true), ((decide (v2 ≥ (0 : Int))), true)]) rfl (show 1 ∈ Zv (Zfs 1) from by decide +kernel) (fun gv => by kernel_rfl) (oT <| Za (Zo (E := E_iiiiiiAi) (L := L0) (i := (v2).toNat) (q := 1) (by omega) (show ((0 + ((v2).toNat * 8)) + 1) = (v2).toNat * 8 + 1 from by omega) (show 1 + 1 ≤ 8 from by decide) rfl rfl) <| oB <| oI <| oF <| Za (Zo (E := E_iiiiiiAi) (L := L0) (i := (v2).toNat) (q := 4) (by omega) (show ((0 + ((v2).toNat * 8)) + 4) = (v2).toNat * 8 + 4 from by omega) (show 4 + 1 ≤ 8 from by decide) rfl rfl) <| oB <| oI <| oY Zf) rfl (by decide) (by rfl) (fun _ => ⟨rr, ⟨rr, ⟨rr, ⟨rr, trivial⟩⟩⟩⟩) ⟨(Zi (E := E_iiiiiiAi) (α := R_iiiiiiAi) _ L0 _), ⟨⟨rfl, ⟨[], by rfl⟩, by rfl⟩, trivial⟩⟩
     ·
      exact Mach.ok_next (M := ZN L0 a1 N) (cd := 1000000) (cm := 0) (y := (.h1m0 (false) ((IntKind.i64.wrap (v2 - (1 : Int)))) : ZE)) (fu := 4000) (orc := (Zm [(0, true), (1, false), (2, false)] [] [(0, (v2).toNat), (1, (v2).toNat)] [(0, [.i (L0.getD (v2).toNat R_iiiiiiAi.z).a4]), (2, [.i (L0.getD (v2).toNat R_iiiiiiAi.z).a1])] [])) (live := [0, 1]) (tv := fun _ => [some (vs 0 0 L0.length L0.length), some (vp 1 0), some (vf), some (vi (IntKind.i64.wrap (v2 - (1 : Int))))]) (bl := [some (.cells (Zb E_iiiiiiAi L0) 27), some (.cells [vi (L0.getD (a1).toNat R_iiiiiiAi.z).a0, vi (L0.getD (a1).toNat R_iiiiiiAi.z).a1, vi (L0.getD (a1).toNat R_iiiiiiAi.z).a2, vi (L0.getD (a1).toNat R_iiiiiiAi.z).a3, vi (L0.getD (a1).toNat R_iiiiiiAi.z).a4, vi (L0.getD (a1).toNat R_iiiiiiAi.z).a5, ms E_ii (L0.getD (a1).toNat R_iiiiiiAi.z).a6, vi (L0.getD (a1).toNat R_iiiiiiAi.z).a7] 27)]) (ob := [(((L0.getD (v2).toNat R_iiiiiiAi.z).a1 == (L0.getD (a1).toNat R_iiiiiiAi.z).a1), false), (Z1 (Zl 1 (List.drop ((0 + ((v2).toNat * 8)) + 1) (Zb E_iiiiiiAi L0))) [.i (L0.getD (v2).toNat R_iiiiiiAi.z).a1], true), (Nat.blt (v2).toNat L0.length, true), (v2 == Int.ofNat (v2).toNat, true), (((L0.getD (v2).toNat R_iiiiiiAi.z).a4 == (L0.getD (a1).toNat R_iiiiiiAi.z).a4), false), (Z1 (Zl 1 (List.drop ((0 + ((v2).toNat * 8)) + 4) (Zb E_iiiiiiAi L0))) [.i (L0.getD (v2).toNat R_iiiiiiAi.z).a4], true), (Nat.blt (v2).toNat L0.length, true), (v2 == Int.ofNat (v2).toNat, true), ((decide (v2 ≥ (0 : Int))), true)]) rfl (show 1 ∈ Zv (Zfs 1) from by decide +kernel) (fun gv => by kernel_rfl) (oF <| Za (Zo (E := E_iiiiiiAi) (L := L0) (i := (v2).toNat) (q := 1) (by omega) (show ((0 + ((v2).toNat * 8)) + 1) = (v2).toNat * 8 + 1 from by omega) (show 1 + 1 ≤ 8 from by decide) rfl rfl) <| oB <| oI <| oF <| Za (Zo (E := E_iiiiiiAi) (L := L0) (i := (v2).toNat) (q := 4) (by omega) (show ((0 + ((v2).toNat * 8)) + 4) = (v2).toNat * 8 + 4 from by omega) (show 4 + 1 ≤ 8 from by decide) rfl rfl) <| oB <| oI <| oY Zf) rfl (by decide) (by rfl) (fun _ => ⟨rr, ⟨rr, ⟨rr, ⟨rr, trivial⟩⟩⟩⟩) ⟨(Zi (E := E_iiiiiiAi) (α := R_iiiiiiAi) _ L0 _), ⟨⟨rfl, ⟨[], by rfl⟩, by rfl⟩, trivial⟩⟩
   ·
    exact Mach.ok_none
  ·
   exact Mach.ok_fin (M := ZN L0 a1 N) (cd := 1000000) (cm := 0) (r := (.r0 (true) : Zz)) (fu := 4000) (orc := (Zm [(0, false)] [] [] [] [])) (live := [0]) (u := vT) (bl := [some (.cells (Zb E_iiiiiiAi L0) 27)]) (ob := [((decide (v2 ≥ (0 : Int))), false)]) (fun gv => by kernel_rfl) (oN Zf) rfl (by decide) (by rfl) rr ⟨(Zi (E := E_iiiiiiAi) (α := R_iiiiiiAi) _ L0 _), trivial⟩

theorem ZlR (L0 : List R_iiiiiiAi) (a1 : Int) (N : Nat) : (ZN L0 a1 N).Enter Tryz.prog Zp #[vs 0 0 L0.length L0.length, vi a1] (Zbk L0 a1 N) := by
 unfold Zbk
 refine Mach.en_ite (fun g0 => ?_) (fun g0 => ?_)
 ·
  refine Mach.en_ite (fun g1 => ?_) (fun g1 => ?_)
  ·
   refine Mach.en_ite (fun g2 => ?_) (fun g2 => ?_)
   ·
    exact Mach.en_fin (M := ZN L0 a1 N) (cd := 1000000) (cm := 0) (r := (.r0 (false) : Zz)) (fu := 4000) (orc := (Zm [(0, true)] [] [(0, (a1).toNat)] [(0, [.i (L0.getD (a1).toNat R_iiiiiiAi.z).a0, .i (L0.getD (a1).toNat R_iiiiiiAi.z).a1, .i (L0.getD (a1).toNat R_iiiiiiAi.z).a2, .i (L0.getD (a1).toNat R_iiiiiiAi.z).a3, .i (L0.getD (a1).toNat R_iiiiiiAi.z).a4, .i (L0.getD (a1).toNat R_iiiiiiAi.z).a5, (mc E_ii (L0.getD (a1).toNat R_iiiiiiAi.z).a6), .i (L0.getD (a1).toNat R_iiiiiiAi.z).a7])] [])) (live := [0]) (u := vf) (bl := [some (.cells (Zb E_iiiiiiAi L0) 27)]) (ob := [((decide ((L0.getD (a1).toNat R_iiiiiiAi.z).a3 < (1 : Int))), true), (Z1 (Zl 8 (List.drop (0 + ((a1).toNat * 8)) (Zb E_iiiiiiAi L0))) [.i (L0.getD (a1).toNat R_iiiiiiAi.z).a0, .i (L0.getD (a1).toNat R_iiiiiiAi.z).a1, .i (L0.getD (a1).toNat R_iiiiiiAi.z).a2, .i (L0.getD (a1).toNat R_iiiiiiAi.z).a3, .i (L0.getD (a1).toNat R_iiiiiiAi.z).a4, .i (L0.getD (a1).toNat R_iiiiiiAi.z).a5, (mc E_ii (L0.getD (a1).toNat R_iiiiiiAi.z).a6), .i (L0.getD (a1).toNat R_iiiiiiAi.z).a7], true), (Nat.blt (a1).toNat L0.length, true), (a1 == Int.ofNat (a1).toNat, true)]) (by kernel_rfl) (oY <| Za (Zo (E := E_iiiiiiAi) (L := L0) (i := (a1).toNat) (q := 0) (by omega) (show (0 + ((a1).toNat * 8)) = (a1).toNat * 8 + 0 from by omega) (show 0 + 8 ≤ 8 from by decide) rfl rfl) <| oB <| oI Zf) rfl (by decide) (by rfl) rr ⟨(Zi (E := E_iiiiiiAi) (α := R_iiiiiiAi) _ L0 _), trivial⟩
   ·
    refine Mach.en_ite (fun g3 => ?_) (fun g3 => ?_)
    ·
     exact Mach.en_fin (M := ZN L0 a1 N) (cd := 1000000) (cm := 0) (r := (.r0 (false) : Zz)) (fu := 4000) (orc := (Zm [(0, false), (1, true)] [] [(0, (a1).toNat)] [(0, [.i (L0.getD (a1).toNat R_iiiiiiAi.z).a0, .i (L0.getD (a1).toNat R_iiiiiiAi.z).a1, .i (L0.getD (a1).toNat R_iiiiiiAi.z).a2, .i (L0.getD (a1).toNat R_iiiiiiAi.z).a3, .i (L0.getD (a1).toNat R_iiiiiiAi.z).a4, .i (L0.getD (a1).toNat R_iiiiiiAi.z).a5, (mc E_ii (L0.getD (a1).toNat R_iiiiiiAi.z).a6), .i (L0.getD (a1).toNat R_iiiiiiAi.z).a7])] [])) (live := [0]) (u := vf) (bl := [some (.cells (Zb E_iiiiiiAi L0) 27)]) (ob := [((decide ((L0.getD (a1).toNat R_iiiiiiAi.z).a4 < (L0.getD (a1).toNat R_iiiiiiAi.z).a3)), true), ((decide ((L0.getD (a1).toNat R_iiiiiiAi.z).a3 < (1 : Int))), false), (Z1 (Zl 8 (List.drop (0 + ((a1).toNat * 8)) (Zb E_iiiiiiAi L0))) [.i (L0.getD (a1).toNat R_iiiiiiAi.z).a0, .i (L0.getD (a1).toNat R_iiiiiiAi.z).a1, .i (L0.getD (a1).toNat R_iiiiiiAi.z).a2, .i (L0.getD (a1).toNat R_iiiiiiAi.z).a3, .i (L0.getD (a1).toNat R_iiiiiiAi.z).a4, .i (L0.getD (a1).toNat R_iiiiiiAi.z).a5, (mc E_ii (L0.getD (a1).toNat R_iiiiiiAi.z).a6), .i (L0.getD (a1).toNat R_iiiiiiAi.z).a7], true), (Nat.blt (a1).toNat L0.length, true), (a1 == Int.ofNat (a1).toNat, true)]) (by kernel_rfl) (oY <| oN <| Za (Zo (E := E_iiiiiiAi) (L := L0) (i := (a1).toNat) (q := 0) (by omega) (show (0 + ((a1).toNat * 8)) = (a1).toNat * 8 + 0 from by omega) (show 0 + 8 ≤ 8 from by decide) rfl rfl) <| oB <| oI Zf) rfl (by decide) (by rfl) rr ⟨(Zi (E := E_iiiiiiAi) (α := R_iiiiiiAi) _ L0 _), trivial⟩
    ·
     refine Mach.en_ite (fun g4 => ?_) (fun g4 => ?_)
     ·
      exact Mach.en_fin (M := ZN L0 a1 N) (cd := 1000000) (cm := 0) (r := (.r0 (false) : Zz)) (fu := 4000) (orc := (Zm [(0, false), (1, false), (2, true)] [] [(0, (a1).toNat)] [(0, [.i (L0.getD (a1).toNat R_iiiiiiAi.z).a0, .i (L0.getD (a1).toNat R_iiiiiiAi.z).a1, .i (L0.getD (a1).toNat R_iiiiiiAi.z).a2, .i (L0.getD (a1).toNat R_iiiiiiAi.z).a3, .i (L0.getD (a1).toNat R_iiiiiiAi.z).a4, .i (L0.getD (a1).toNat R_iiiiiiAi.z).a5, (mc E_ii (L0.getD (a1).toNat R_iiiiiiAi.z).a6), .i (L0.getD (a1).toNat R_iiiiiiAi.z).a7])] [])) (live := [0]) (u := vf) (bl := [some (.cells (Zb E_iiiiiiAi L0) 27)]) (ob := [((decide ((L0.getD (a1).toNat R_iiiiiiAi.z).a4 > (L0.getD (a1).toNat R_iiiiiiAi.z).a5)), true), ((decide ((L0.getD (a1).toNat R_iiiiiiAi.z).a4 < (L0.getD (a1).toNat R_iiiiiiAi.z).a3)), false), ((decide ((L0.getD (a1).toNat R_iiiiiiAi.z).a3 < (1 : Int))), false), (Z1 (Zl 8 (List.drop (0 + ((a1).toNat * 8)) (Zb E_iiiiiiAi L0))) [.i (L0.getD (a1).toNat R_iiiiiiAi.z).a0, .i (L0.getD (a1).toNat R_iiiiiiAi.z).a1, .i (L0.getD (a1).toNat R_iiiiiiAi.z).a2, .i (L0.getD (a1).toNat R_iiiiiiAi.z).a3, .i (L0.getD (a1).toNat R_iiiiiiAi.z).a4, .i (L0.getD (a1).toNat R_iiiiiiAi.z).a5, (mc E_ii (L0.getD (a1).toNat R_iiiiiiAi.z).a6), .i (L0.getD (a1).toNat R_iiiiiiAi.z).a7], true), (Nat.blt (a1).toNat L0.length, true), (a1 == Int.ofNat (a1).toNat, true)]) (by kernel_rfl) (oY <| oN <| oN <| Za (Zo (E := E_iiiiiiAi) (L := L0) (i := (a1).toNat) (q := 0) (by omega) (show (0 + ((a1).toNat * 8)) = (a1).toNat * 8 + 0 from by omega) (show 0 + 8 ≤ 8 from by decide) rfl rfl) <| oB <| oI Zf) rfl (by decide) (by rfl) rr ⟨(Zi (E := E_iiiiiiAi) (α := R_iiiiiiAi) _ L0 _), trivial⟩
     ·
      exact Mach.en_head (bK := Zdc 1) (M := ZN L0 a1 N) (cd := 1000000) (cm := 0) (y := (.h1m0 (true) ((IntKind.i64.wrap (a1 - (1 : Int)))) : ZE)) (fu := 4000) (orc := (Zm [(0, false), (1, false), (2, false)] [] [(0, (a1).toNat)] [(0, [.i (L0.getD (a1).toNat R_iiiiiiAi.z).a0, .i (L0.getD (a1).toNat R_iiiiiiAi.z).a1, .i (L0.getD (a1).toNat R_iiiiiiAi.z).a2, .i (L0.getD (a1).toNat R_iiiiiiAi.z).a3, .i (L0.getD (a1).toNat R_iiiiiiAi.z).a4, .i (L0.getD (a1).toNat R_iiiiiiAi.z).a5, (mc E_ii (L0.getD (a1).toNat R_iiiiiiAi.z).a6), .i (L0.getD (a1).toNat R_iiiiiiAi.z).a7])] [])) (live := [0, 1]) (tv := [some (vs 0 0 L0.length L0.length), some (vp 1 0), some (vT), some (vi (IntKind.i64.wrap (a1 - (1 : Int))))]) (bl := [some (.cells (Zb E_iiiiiiAi L0) 27), some (.cells [vi (L0.getD (a1).toNat R_iiiiiiAi.z).a0, vi (L0.getD (a1).toNat R_iiiiiiAi.z).a1, vi (L0.getD (a1).toNat R_iiiiiiAi.z).a2, vi (L0.getD (a1).toNat R_iiiiiiAi.z).a3, vi (L0.getD (a1).toNat R_iiiiiiAi.z).a4, vi (L0.getD (a1).toNat R_iiiiiiAi.z).a5, ms E_ii (L0.getD (a1).toNat R_iiiiiiAi.z).a6, vi (L0.getD (a1).toNat R_iiiiiiAi.z).a7] 27)]) (ob := [((decide ((L0.getD (a1).toNat R_iiiiiiAi.z).a4 > (L0.getD (a1).toNat R_iiiiiiAi.z).a5)), false), ((decide ((L0.getD (a1).toNat R_iiiiiiAi.z).a4 < (L0.getD (a1).toNat R_iiiiiiAi.z).a3)), false), ((decide ((L0.getD (a1).toNat R_iiiiiiAi.z).a3 < (1 : Int))), false), (Z1 (Zl 8 (List.drop (0 + ((a1).toNat * 8)) (Zb E_iiiiiiAi L0))) [.i (L0.getD (a1).toNat R_iiiiiiAi.z).a0, .i (L0.getD (a1).toNat R_iiiiiiAi.z).a1, .i (L0.getD (a1).toNat R_iiiiiiAi.z).a2, .i (L0.getD (a1).toNat R_iiiiiiAi.z).a3, .i (L0.getD (a1).toNat R_iiiiiiAi.z).a4, .i (L0.getD (a1).toNat R_iiiiiiAi.z).a5, (mc E_ii (L0.getD (a1).toNat R_iiiiiiAi.z).a6), .i (L0.getD (a1).toNat R_iiiiiiAi.z).a7], true), (Nat.blt (a1).toNat L0.length, true), (a1 == Int.ofNat (a1).toNat, true)]) rfl rfl (show Zv (Zdc 1).2 = [] from rfl) (by kernel_rfl) (oN <| oN <| oN <| Za (Zo (E := E_iiiiiiAi) (L := L0) (i := (a1).toNat) (q := 0) (by omega) (show (0 + ((a1).toNat * 8)) = (a1).toNat * 8 + 0 from by omega) (show 0 + 8 ≤ 8 from by decide) rfl rfl) <| oB <| oI Zf) rfl (by decide) (by rfl) ⟨rr, ⟨rr, ⟨rr, ⟨rr, trivial⟩⟩⟩⟩ ⟨(Zi (E := E_iiiiiiAi) (α := R_iiiiiiAi) _ L0 _), ⟨⟨rfl, ⟨[], by rfl⟩, by rfl⟩, trivial⟩⟩
  ·
   exact Mach.en_none
 ·
  exact Mach.en_none

theorem ZkA (L0 : List R_iiiiiiAi) (a1 : Int) (N : Nat) (r : Zz) (h : Ze6 L0 a1 N = some r) : LSpec Tryz.prog 19 #[vs 0 0 L0.length L0.length, vi a1] [.cells (Zb E_iiiiiiAi L0) 27] (Zjt L0 a1 r) (Zi5 L0 a1 r) :=
 Mach.spec ZbX (ZN L0 a1 N) Tryz.func19 (by kernel_rfl) (by kernel_rfl) (fun x => by cases x <;> exact Zad _ rfl) (fun r => by cases r <;> exact Zad _ rfl) (fun x => by
  cases x with
  | h1m0 _ _ => exact fun _ => (show ¬ (1 ∈ Zv (Zdc 1).2) from by decide +kernel)
  ) (fun x => (show (ZN L0 a1 N).Ok Tryz.prog Zp x (Zay L0 a1 N x) from by
  cases x with
  | h1m0 v1 v2 => exact ZjO L0 a1 v1 v2 N
  )) (ZlR L0 a1 N) (n := N) h

noncomputable def ZeC (L0 : List R_iiiiiiAi) (a1 : Int) (w1 : Bool) (k0 n : Nat) : Zbh := .call [(k0, .cells (Zb E_iiiiiiAi L0) 27)] (Value.bool w1) [] 0
def Zd5 (A : Array Value) (L0 : List R_iiiiiiAi) (a1 : Int) (w1 : Bool) (k0 n : Nat) : Prop := Z3 Tryz.prog 19 A [(k0, .cells (Zb E_iiiiiiAi L0) 27)] (Value.bool w1) [] n 0

theorem ZeD (A : Array Value) (L0 : List R_iiiiiiAi) (a1 : Int) (w1 : Bool) (N : Nat) (h : Ze6 L0 a1 N = some (.r0 w1)) (k0 n : Nat) (hA : A = #[vs k0 0 L0.length L0.length, vi a1]) (hnd : ([k0] : List Nat).Nodup) (hlt : ∀ k ∈ ([k0] : List Nat), k < n) : Zd5 A L0 a1 w1 k0 n :=
 Zal hA (LSpec.callL (show LSpec Tryz.prog 19 #[vs 0 0 L0.length L0.length, vi a1] [.cells (Zb E_iiiiiiAi L0) 27] (Value.bool w1) [some (.cells (Zb E_iiiiiiAi L0) 27)] from ZkA L0 a1 N _ h) [k0] n [] rfl hnd hlt (show 1 ≤ 1 from by decide) (show ∀ j ∈ ([] : List Nat), j < 1 from by decide) (by rfl) ⟨(Zy _ _ _), trivial⟩ (by rfl) ⟨(Zy _ _ _), trivial⟩ ⟨.inr rfl, trivial⟩ rfl rfl rfl (ZaS (ZaT rfl (Za9 _ _ _)) rfl) rfl)

noncomputable def Zi7 (L0 : List R_iiiiiiAi) : Z9 → Value
 | .r0 w1 => Value.tuple #[vn, vi w1]
 | .r1 w1 => Value.tuple #[vs 1 0 w1.length w1.length, vq]
noncomputable def ZhN (L0 : List R_iiiiiiAi) : Z9 → List (Option AObj)
 | .r0 w1 => [some (.cells (Zb E_iiiiiiAi L0) 27)]
 | .r1 w1 => [some (.cells (Zb E_iiiiiiAi L0) 27), some (.cells (Zb E_iiiiiiAi w1) 27)]

def ZlS : Zk → Nat
 | .h1m0 => 1
 | .h1m1 v1 v2 => 1
 | .h2m0 => 2
 | .h2m1 v1 v2 v3 => 2
noncomputable def Zm4 (L0 : List R_iiiiiiAi) : Zk → List (Nat × Value)
 | .h1m0 => [(0, vs 0 0 L0.length L0.length), (4, vn), (5, vq)]
 | .h1m1 v1 v2 => [(0, vs 0 0 L0.length L0.length), (4, vs 1 0 v1.length v1.length), (5, vi (v2 : Int))]
 | .h2m0 => [(0, vs 0 0 L0.length L0.length), (4, vn), (5, vq), (6, vq)]
 | .h2m1 v1 v2 v3 => [(0, vs 0 0 L0.length L0.length), (4, vs 1 0 v1.length v1.length), (5, vi (v2 : Int)), (6, vi (v3 : Int))]
noncomputable def Zm5 (L0 : List R_iiiiiiAi) : Zk → List (Option AObj)
 | .h1m0 => [some (.cells (Zb E_iiiiiiAi L0) 27)]
 | .h1m1 v1 v2 => [some (.cells (Zb E_iiiiiiAi L0) 27), some (.cells (Zb E_iiiiiiAi v1) 27)]
 | .h2m0 => [some (.cells (Zb E_iiiiiiAi L0) 27)]
 | .h2m1 v1 v2 v3 => [some (.cells (Zb E_iiiiiiAi L0) 27), some (.cells (Zb E_iiiiiiAi v1) 27)]

noncomputable def Zat : Nat → Code × List Zap
 | 1 => ZaU [1, 1, 0, 1, 3] (ZbW Tryz.f7) []
 | 2 => ZaU [1, 1, 0, 1, 3, 7, 1, 0, 3, 1, 1, 0, 3] (ZbW Tryz.f7) []
 | _ => (.skip, [])
def ZhO : Nat → Bool
 | 1 => true
 | 2 => true
 | _ => true
noncomputable def ZbD (i : Nat) : List Zap := match ZhO i with | true => .rnd i :: (Zat i).2 | false => (Zat i).2

noncomputable def Zx (L0 : List R_iiiiiiAi) (N : Nat) : Mach := ⟨Tryz.f7, [.cells (Zb E_iiiiiiAi L0) 27], Zk, Z9, Zt L0 N, ZlS, Zat, ZhO, Zm4 L0, Zm5 L0, Zi7 L0, ZhN L0⟩

theorem Zju (L0 : List R_iiiiiiAi) (N : Nat) : (Zx L0 N).Ok Tryz.prog Zp (.h1m0 : Zk) (Zt L0 N (.h1m0 : Zk)) := by
 show (Zx L0 N).Ok Tryz.prog Zp (.h1m0 : Zk) (Zbd L0 N)
 unfold Zbd
 refine Mach.ok_ite (fun g0 => ?_) (fun g0 => ?_)
 ·
  refine Mach.ok_bind (fun z1 c1 => ?_)
  cases z1 with
  | r0 y1_0 =>
   refine Mach.ok_ite (fun g2 => ?_) (fun g2 => ?_)
   ·
    exact Mach.ok_fin (M := Zx L0 N) (cd := 1000000) (cm := 0) (r := (.r0 ((220 : Int)) : Z9)) (fu := 4000) (orc := (Zm [(0, true), (1, true)] [] [] [] [(0, (ZeC (L0) ((0 : Int))  y1_0 0 1))])) (live := [0]) (u := Value.tuple #[vn, vi (220 : Int)]) (bl := [some (.cells (Zb E_iiiiiiAi L0) 27)]) (ob := [((!y1_0), true), (dP (Zd5 #[vs 0 0 L0.length L0.length, vq] (L0) ((0 : Int))  y1_0 0 1), true), (dS (Zb E_iiiiiiAi L0), true), ((decide ((0 : Int) < (L0.length : Int))), true)]) (fun gv => by kernel_rfl) (Za (Zjk (by first | assumption | simp_all)) <| Za (Ze (ZeD #[vs 0 0 L0.length L0.length, vq] (L0) ((0 : Int))  y1_0 N c1 0 1 rfl (by decide) (by decide))) <| oR <| oY Zf) rfl (by decide) (by rfl) rr ⟨(Zi (E := E_iiiiiiAi) (α := R_iiiiiiAi) _ L0 _), trivial⟩
   ·
    exact Mach.ok_head (bK := Zat 2) (M := Zx L0 N) (cd := 1000000) (cm := 0) (y := (.h2m0 : Zk)) (fu := 4000) (orc := (Zm [(0, true), (1, false)] [] [] [] [(0, (ZeC (L0) ((0 : Int))  y1_0 0 1))])) (live := [0]) (tv := fun _ => [some (vs 0 0 L0.length L0.length), some (vn), some (vq), some (vq)]) (bl := [some (.cells (Zb E_iiiiiiAi L0) 27)]) (ob := [((!y1_0), false), (dP (Zd5 #[vs 0 0 L0.length L0.length, vq] (L0) ((0 : Int))  y1_0 0 1), true), (dS (Zb E_iiiiiiAi L0), true), ((decide ((0 : Int) < (L0.length : Int))), true)]) rfl rfl (show ∀ j ∈ Zv (Zat 2).2, j ∈ Zv (ZbD 1) from by decide +kernel) (fun gv => by kernel_rfl) (Za (ZhG (by first | assumption | exact Decidable.not_not.1 (by assumption) | simp_all)) <| Za (Ze (ZeD #[vs 0 0 L0.length L0.length, vq] (L0) ((0 : Int))  y1_0 N c1 0 1 rfl (by decide) (by decide))) <| oR <| oY Zf) rfl (by decide) (by rfl) (fun _ => ⟨rr, ⟨rr, ⟨rr, ⟨rr, trivial⟩⟩⟩⟩) ⟨(Zi (E := E_iiiiiiAi) (α := R_iiiiiiAi) _ L0 _), trivial⟩
 ·
  exact Mach.ok_fin (M := Zx L0 N) (cd := 1000000) (cm := 0) (r := (.r0 ((0 : Int)) : Z9)) (fu := 4000) (orc := (Zm [(0, false)] [] [] [] [])) (live := [0]) (u := Value.tuple #[vn, vq]) (bl := [some (.cells (Zb E_iiiiiiAi L0) 27)]) (ob := [((decide ((0 : Int) < (L0.length : Int))), false)]) (fun gv => by kernel_rfl) (oN Zf) rfl (by decide) (by rfl) rr ⟨(Zi (E := E_iiiiiiAi) (α := R_iiiiiiAi) _ L0 _), trivial⟩

theorem Zjv (L0 v1 : List R_iiiiiiAi) (v2 N : Nat) : (Zx L0 N).Ok Tryz.prog Zp (.h1m1 v1 v2 : Zk) (Zt L0 N (.h1m1 v1 v2 : Zk)) := by
 show (Zx L0 N).Ok Tryz.prog Zp (.h1m1 v1 v2 : Zk) (Za6 L0 N v1 v2)
 unfold Za6
 refine Mach.ok_ite (fun g0 => ?_) (fun g0 => ?_)
 ·
  refine Mach.ok_bind (fun z1 c1 => ?_)
  cases z1 with
  | r0 y1_0 =>
   refine Mach.ok_ite (fun g2 => ?_) (fun g2 => ?_)
   ·
    exact Mach.ok_fin (M := Zx L0 N) (cd := 1000000) (cm := 0) (r := (.r0 ((220 : Int)) : Z9)) (fu := 4000) (orc := (Zm [(0, true), (1, true)] [] [] [] [(0, (ZeC (L0) ((v2 : Int))  y1_0 0 2))])) (live := [0]) (u := Value.tuple #[vn, vi (220 : Int)]) (bl := [some (.cells (Zb E_iiiiiiAi L0) 27)]) (ob := [((!y1_0), true), (dP (Zd5 #[vs 0 0 L0.length L0.length, vi (v2 : Int)] (L0) ((v2 : Int))  y1_0 0 2), true), (dS (Zb E_iiiiiiAi L0), true), ((decide ((v2 : Int) < (L0.length : Int))), true)]) (fun gv => by kernel_rfl) (Za (Zjk (by first | assumption | simp_all)) <| Za (Ze (ZeD #[vs 0 0 L0.length L0.length, vi (v2 : Int)] (L0) ((v2 : Int))  y1_0 N c1 0 2 rfl (by decide) (by decide))) <| oR <| oY Zf) rfl (by decide) (by rfl) rr ⟨(Zi (E := E_iiiiiiAi) (α := R_iiiiiiAi) _ L0 _), trivial⟩
   ·
    exact Mach.ok_head (bK := Zat 2) (M := Zx L0 N) (cd := 1000000) (cm := 0) (y := (.h2m1 (v1) (v2) (0) : Zk)) (fu := 4000) (orc := (Zm [(0, true), (1, false)] [] [] [] [(0, (ZeC (L0) ((v2 : Int))  y1_0 0 2))])) (live := [0, 1]) (tv := fun _ => [some (vs 0 0 L0.length L0.length), some (vs 1 0 v1.length v1.length), some (vi (v2 : Int)), some (vq)]) (bl := [some (.cells (Zb E_iiiiiiAi L0) 27), some (.cells (Zb E_iiiiiiAi v1) 27)]) (ob := [((!y1_0), false), (dP (Zd5 #[vs 0 0 L0.length L0.length, vi (v2 : Int)] (L0) ((v2 : Int))  y1_0 0 2), true), (dS (Zb E_iiiiiiAi L0), true), ((decide ((v2 : Int) < (L0.length : Int))), true)]) rfl rfl (show ∀ j ∈ Zv (Zat 2).2, j ∈ Zv (ZbD 1) from by decide +kernel) (fun gv => by kernel_rfl) (Za (ZhG (by first | assumption | exact Decidable.not_not.1 (by assumption) | simp_all)) <| Za (Ze (ZeD #[vs 0 0 L0.length L0.length, vi (v2 : Int)] (L0) ((v2 : Int))  y1_0 N c1 0 2 rfl (by decide) (by decide))) <| oR <| oY Zf) rfl (by decide) (by rfl) (fun _ => ⟨rr, ⟨rr, ⟨rr, ⟨⟨Eq.trans (show (vi ((0 : Nat) : Int) : Value) = vq from (congrArg (Value.int .i64) (by first | rfl | omega))) (by rfl), by rfl⟩, trivial⟩⟩⟩⟩) ⟨(Zi (E := E_iiiiiiAi) (α := R_iiiiiiAi) _ L0 _), ⟨(Zi (E := E_iiiiiiAi) (α := R_iiiiiiAi) _ v1 _), trivial⟩⟩
 ·
  exact Mach.ok_fin (M := Zx L0 N) (cd := 1000000) (cm := 0) (r := (.r1 (v1) : Z9)) (fu := 4000) (orc := (Zm [(0, false)] [] [] [] [])) (live := [0, 1]) (u := Value.tuple #[vs 1 0 v1.length v1.length, vq]) (bl := [some (.cells (Zb E_iiiiiiAi L0) 27), some (.cells (Zb E_iiiiiiAi v1) 27)]) (ob := [((decide ((v2 : Int) < (L0.length : Int))), false)]) (fun gv => by kernel_rfl) (oN Zf) rfl (by decide) (by rfl) rr ⟨(Zi (E := E_iiiiiiAi) (α := R_iiiiiiAi) _ L0 _), ⟨(Zi (E := E_iiiiiiAi) (α := R_iiiiiiAi) _ v1 _), trivial⟩⟩

theorem Zjw (L0 : List R_iiiiiiAi) (N : Nat) : (Zx L0 N).Ok Tryz.prog Zp (.h2m0 : Zk) (Zt L0 N (.h2m0 : Zk)) := by
 show (Zx L0 N).Ok Tryz.prog Zp (.h2m0 : Zk) (Zce L0 N)
 unfold Zce
 refine Mach.ok_ite (fun g0 => ?_) (fun g0 => ?_)
 ·
  exact Mach.ok_next (M := Zx L0 N) (cd := 1000000) (cm := 0) (y := (.h1m1 (([(⟨(L0.getD 0 R_iiiiiiAi.z).a0, (L0.getD 0 R_iiiiiiAi.z).a1, (L0.getD 0 R_iiiiiiAi.z).a2, (L0.getD 0 R_iiiiiiAi.z).a3, (L0.getD 0 R_iiiiiiAi.z).a4, (L0.getD 0 R_iiiiiiAi.z).a5, (L0.getD 0 R_iiiiiiAi.z).a6, (L0.getD 0 R_iiiiiiAi.z).a7⟩ : R_iiiiiiAi)] : List R_iiiiiiAi)) (1) : Zk)) (fu := 4000) (orc := (Zm [] [] [(0, 0)] [(0, [.i (L0.getD 0 R_iiiiiiAi.z).a0, .i (L0.getD 0 R_iiiiiiAi.z).a1, .i (L0.getD 0 R_iiiiiiAi.z).a2, .i (L0.getD 0 R_iiiiiiAi.z).a3, .i (L0.getD 0 R_iiiiiiAi.z).a4, .i (L0.getD 0 R_iiiiiiAi.z).a5, (mc E_ii (L0.getD 0 R_iiiiiiAi.z).a6), .i (L0.getD 0 R_iiiiiiAi.z).a7])] [])) (live := [0, 2]) (tv := fun _ => [some (vs 0 0 L0.length L0.length), some (vs 2 0 1 1), some (vi (1 : Int))]) (bl := [some (.cells (Zb E_iiiiiiAi L0) 27), some (.cells [vi (L0.getD 0 R_iiiiiiAi.z).a0, vi (L0.getD 0 R_iiiiiiAi.z).a1, vi (L0.getD 0 R_iiiiiiAi.z).a2, vi (L0.getD 0 R_iiiiiiAi.z).a3, vi (L0.getD 0 R_iiiiiiAi.z).a4, vi (L0.getD 0 R_iiiiiiAi.z).a5, ms E_ii (L0.getD 0 R_iiiiiiAi.z).a6, vi (L0.getD 0 R_iiiiiiAi.z).a7] 27)]) (ob := [(Z1 (Zl 8 (List.drop (0 + (0 * 8)) (Zb E_iiiiiiAi L0))) [.i (L0.getD 0 R_iiiiiiAi.z).a0, .i (L0.getD 0 R_iiiiiiAi.z).a1, .i (L0.getD 0 R_iiiiiiAi.z).a2, .i (L0.getD 0 R_iiiiiiAi.z).a3, .i (L0.getD 0 R_iiiiiiAi.z).a4, .i (L0.getD 0 R_iiiiiiAi.z).a5, (mc E_ii (L0.getD 0 R_iiiiiiAi.z).a6), .i (L0.getD 0 R_iiiiiiAi.z).a7], true), (Nat.blt 0 L0.length, true), ((0 : Int) == Int.ofNat 0, true)]) rfl (show 1 ∈ Zv (ZbD 2) from by decide +kernel) (fun gv => by kernel_rfl) (Za (Zo (E := E_iiiiiiAi) (L := L0) (i := 0) (q := 0) (by omega) (show (0 + (0 * 8)) = 0 * 8 + 0 from by omega) (show 0 + 8 ≤ 8 from by decide) rfl rfl) <| oB <| oI Zf) rfl (by decide) (by rfl) (fun _ => ⟨rr, ⟨⟨Eq.trans (show (vs 1 0 ([(⟨(L0.getD 0 R_iiiiiiAi.z).a0, (L0.getD 0 R_iiiiiiAi.z).a1, (L0.getD 0 R_iiiiiiAi.z).a2, (L0.getD 0 R_iiiiiiAi.z).a3, (L0.getD 0 R_iiiiiiAi.z).a4, (L0.getD 0 R_iiiiiiAi.z).a5, (L0.getD 0 R_iiiiiiAi.z).a6, (L0.getD 0 R_iiiiiiAi.z).a7⟩ : R_iiiiiiAi)] : List R_iiiiiiAi).length ([(⟨(L0.getD 0 R_iiiiiiAi.z).a0, (L0.getD 0 R_iiiiiiAi.z).a1, (L0.getD 0 R_iiiiiiAi.z).a2, (L0.getD 0 R_iiiiiiAi.z).a3, (L0.getD 0 R_iiiiiiAi.z).a4, (L0.getD 0 R_iiiiiiAi.z).a5, (L0.getD 0 R_iiiiiiAi.z).a6, (L0.getD 0 R_iiiiiiAi.z).a7⟩ : R_iiiiiiAi)] : List R_iiiiiiAi).length : Value) = vs 1 0 1 1 from (Zdp rfl eqA eqA)) (by rfl), by rfl⟩, ⟨⟨Eq.trans (show (vi ((1 : Nat) : Int) : Value) = vi (1 : Int) from (congrArg (Value.int .i64) (by first | rfl | omega))) (by rfl), by rfl⟩, trivial⟩⟩⟩) ⟨(Zi (E := E_iiiiiiAi) (α := R_iiiiiiAi) _ L0 _), ⟨(Zgt (E := E_iiiiiiAi) _ (L := ([(⟨(L0.getD 0 R_iiiiiiAi.z).a0, (L0.getD 0 R_iiiiiiAi.z).a1, (L0.getD 0 R_iiiiiiAi.z).a2, (L0.getD 0 R_iiiiiiAi.z).a3, (L0.getD 0 R_iiiiiiAi.z).a4, (L0.getD 0 R_iiiiiiAi.z).a5, (L0.getD 0 R_iiiiiiAi.z).a6, (L0.getD 0 R_iiiiiiAi.z).a7⟩ : R_iiiiiiAi)] : List R_iiiiiiAi)) _ (show ([vi (L0.getD 0 R_iiiiiiAi.z).a0, vi (L0.getD 0 R_iiiiiiAi.z).a1, vi (L0.getD 0 R_iiiiiiAi.z).a2, vi (L0.getD 0 R_iiiiiiAi.z).a3, vi (L0.getD 0 R_iiiiiiAi.z).a4, vi (L0.getD 0 R_iiiiiiAi.z).a5, ms E_ii (L0.getD 0 R_iiiiiiAi.z).a6, vi (L0.getD 0 R_iiiiiiAi.z).a7] : List Value) = Zb E_iiiiiiAi ([(⟨(L0.getD 0 R_iiiiiiAi.z).a0, (L0.getD 0 R_iiiiiiAi.z).a1, (L0.getD 0 R_iiiiiiAi.z).a2, (L0.getD 0 R_iiiiiiAi.z).a3, (L0.getD 0 R_iiiiiiAi.z).a4, (L0.getD 0 R_iiiiiiAi.z).a5, (L0.getD 0 R_iiiiiiAi.z).a6, (L0.getD 0 R_iiiiiiAi.z).a7⟩ : R_iiiiiiAi)] : List R_iiiiiiAi) from rfl)), trivial⟩⟩
 ·
  exact Mach.ok_none

theorem Zjx (L0 v1 : List R_iiiiiiAi) (v2 v3 N : Nat) : (Zx L0 N).Ok Tryz.prog Zp (.h2m1 v1 v2 v3 : Zk) (Zt L0 N (.h2m1 v1 v2 v3 : Zk)) := by
 show (Zx L0 N).Ok Tryz.prog Zp (.h2m1 v1 v2 v3 : Zk) (Za7 L0 N v1 v2 v3)
 unfold Za7
 refine Mach.ok_ite (fun g0 => ?_) (fun g0 => ?_)
 ·
  refine Mach.ok_ite (fun g1 => ?_) (fun g1 => ?_)
  ·
   refine Mach.ok_ite (fun g2 => ?_) (fun g2 => ?_)
   ·
    refine Mach.ok_ite (fun g3 => ?_) (fun g3 => ?_)
    ·
     exact Mach.ok_next (M := Zx L0 N) (cd := 1000000) (cm := 0) (y := (.h2m1 (v1) (v2) ((v3 + 1)) : Zk)) (fu := 4000) (orc := (Zm [(0, true), (1, true)] [(0, (((v3 + 1) : Nat) : Int))] [(0, v3), (1, v2)] [(0, [.i (v1.getD v3 R_iiiiiiAi.z).a4]), (1, [.i (L0.getD v2 R_iiiiiiAi.z).a4])] [])) (live := [0, 1]) (tv := fun _ => [some (vs 0 0 L0.length L0.length), some (vs 1 0 v1.length v1.length), some (vi (v2 : Int)), some (vi (((v3 + 1) : Nat) : Int))]) (bl := [some (.cells (Zb E_iiiiiiAi L0) 27), some (.cells (Zb E_iiiiiiAi v1) 27)]) (ob := [((IntKind.i64.wrap ((v3 : Int) + (1 : Int))) == (((v3 + 1) : Nat) : Int), true), ((decide ((v1.getD v3 R_iiiiiiAi.z).a4 < (L0.getD v2 R_iiiiiiAi.z).a4)), true), (Z1 (Zl 1 (List.drop ((0 + (v2 * 8)) + 4) (Zb E_iiiiiiAi L0))) [.i (L0.getD v2 R_iiiiiiAi.z).a4], true), (Nat.blt v2 L0.length, true), ((v2 : Int) == Int.ofNat v2, true), (Z1 (Zl 1 (List.drop ((0 + (v3 * 8)) + 4) (Zb E_iiiiiiAi v1))) [.i (v1.getD v3 R_iiiiiiAi.z).a4], true), (Nat.blt v3 v1.length, true), ((v3 : Int) == Int.ofNat v3, true), ((decide ((v3 : Int) < (v1.length : Int))), true)]) rfl (show 2 ∈ Zv (ZbD 2) from by decide +kernel) (fun gv => by kernel_rfl) (Za (beq_iff_eq.2 ((wrap_i64 ltA).trans (by first | rfl | omega))) <| oY <| Za (Zo (E := E_iiiiiiAi) (L := L0) (i := v2) (q := 4) (by omega) (show ((0 + (v2 * 8)) + 4) = v2 * 8 + 4 from by omega) (show 4 + 1 ≤ 8 from by decide) rfl rfl) <| oB <| oI <| Za (Zo (E := E_iiiiiiAi) (L := v1) (i := v3) (q := 4) (by omega) (show ((0 + (v3 * 8)) + 4) = v3 * 8 + 4 from by omega) (show 4 + 1 ≤ 8 from by decide) rfl rfl) <| oB <| oI <| oY Zf) rfl (by decide) (by rfl) (fun _ => ⟨rr, ⟨rr, ⟨rr, ⟨rr, trivial⟩⟩⟩⟩) ⟨(Zi (E := E_iiiiiiAi) (α := R_iiiiiiAi) _ L0 _), ⟨(Zi (E := E_iiiiiiAi) (α := R_iiiiiiAi) _ v1 _), trivial⟩⟩
    ·
     exact Mach.ok_none
   ·
    refine Mach.ok_ite (fun g3 => ?_) (fun g3 => ?_)
    ·
     refine Mach.ok_ite (fun g4 => ?_) (fun g4 => ?_)
     ·
      refine Mach.ok_ite (fun g5 => ?_) (fun g5 => ?_)
      ·
       exact Mach.ok_next (M := Zx L0 N) (cd := 1000000) (cm := 0) (y := (.h1m1 ((([(⟨(L0.getD v2 R_iiiiiiAi.z).a0, (L0.getD v2 R_iiiiiiAi.z).a1, (L0.getD v2 R_iiiiiiAi.z).a2, (L0.getD v2 R_iiiiiiAi.z).a3, (L0.getD v2 R_iiiiiiAi.z).a4, (L0.getD v2 R_iiiiiiAi.z).a5, (L0.getD v2 R_iiiiiiAi.z).a6, (L0.getD v2 R_iiiiiiAi.z).a7⟩ : R_iiiiiiAi)] : List R_iiiiiiAi) ++ ((v1.drop v3).take (v1.length - v3)))) ((v2 + 1)) : Zk)) (fu := 4000) (orc := (Zm [(0, true), (1, false)] [(0, (((v2 + 1) : Nat) : Int))] [(0, v3), (1, v2), (2, v2)] [(0, [.i (v1.getD v3 R_iiiiiiAi.z).a4]), (1, [.i (L0.getD v2 R_iiiiiiAi.z).a4]), (2, [.i (L0.getD v2 R_iiiiiiAi.z).a0, .i (L0.getD v2 R_iiiiiiAi.z).a1, .i (L0.getD v2 R_iiiiiiAi.z).a2, .i (L0.getD v2 R_iiiiiiAi.z).a3, .i (L0.getD v2 R_iiiiiiAi.z).a4, .i (L0.getD v2 R_iiiiiiAi.z).a5, (mc E_ii (L0.getD v2 R_iiiiiiAi.z).a6), .i (L0.getD v2 R_iiiiiiAi.z).a7])] [(0, .sl 0 v3), (1, .ap0), (3, .sl v3 v1.length), (4, .ap (v1.length - v3) (Zb E_iiiiiiAi ((v1.drop v3).take (v1.length - v3))) (Zb E_iiiiiiAi (([(⟨(L0.getD v2 R_iiiiiiAi.z).a0, (L0.getD v2 R_iiiiiiAi.z).a1, (L0.getD v2 R_iiiiiiAi.z).a2, (L0.getD v2 R_iiiiiiAi.z).a3, (L0.getD v2 R_iiiiiiAi.z).a4, (L0.getD v2 R_iiiiiiAi.z).a5, (L0.getD v2 R_iiiiiiAi.z).a6, (L0.getD v2 R_iiiiiiAi.z).a7⟩ : R_iiiiiiAi)] : List R_iiiiiiAi) ++ ((v1.drop v3).take (v1.length - v3)))))])) (live := [0, 4]) (tv := fun _ => [some (vs 0 0 L0.length L0.length), some (vs 4 0 (1 + (v1.length - v3)) (1 + (v1.length - v3))), some (vi (((v2 + 1) : Nat) : Int))]) (bl := [some (.cells (Zb E_iiiiiiAi L0) 27), some (.cells (Zb E_iiiiiiAi (([(⟨(L0.getD v2 R_iiiiiiAi.z).a0, (L0.getD v2 R_iiiiiiAi.z).a1, (L0.getD v2 R_iiiiiiAi.z).a2, (L0.getD v2 R_iiiiiiAi.z).a3, (L0.getD v2 R_iiiiiiAi.z).a4, (L0.getD v2 R_iiiiiiAi.z).a5, (L0.getD v2 R_iiiiiiAi.z).a6, (L0.getD v2 R_iiiiiiAi.z).a7⟩ : R_iiiiiiAi)] : List R_iiiiiiAi) ++ ((v1.drop v3).take (v1.length - v3)))) 27)]) (ob := [((IntKind.i64.wrap ((v2 : Int) + (1 : Int))) == (((v2 + 1) : Nat) : Int), true), (dP (((v1.length - v3) = (v1.length - v3) ∧ Zl ((v1.length - v3) * 8) (List.drop (0 + (v3 * 8)) (Zb E_iiiiiiAi v1)) = some (Zb E_iiiiiiAi ((v1.drop v3).take (v1.length - v3))) ∧ Zn Za5 (Zb E_iiiiiiAi ((v1.drop v3).take (v1.length - v3))) = true) ∧ 0 < (v1.length - v3) ∧ (v1.length - v3) ≤ 100000 ∧ 1 < 1 + (v1.length - v3) ∧ 1 ≤ 100000 ∧ 1 * 8 ≤ (List.length [vi (L0.getD v2 R_iiiiiiAi.z).a0, vi (L0.getD v2 R_iiiiiiAi.z).a1, vi (L0.getD v2 R_iiiiiiAi.z).a2, vi (L0.getD v2 R_iiiiiiAi.z).a3, vi (L0.getD v2 R_iiiiiiAi.z).a4, vi (L0.getD v2 R_iiiiiiAi.z).a5, ms E_ii (L0.getD v2 R_iiiiiiAi.z).a6, vi (L0.getD v2 R_iiiiiiAi.z).a7]) ∧ List.take (1 * 8) [vi (L0.getD v2 R_iiiiiiAi.z).a0, vi (L0.getD v2 R_iiiiiiAi.z).a1, vi (L0.getD v2 R_iiiiiiAi.z).a2, vi (L0.getD v2 R_iiiiiiAi.z).a3, vi (L0.getD v2 R_iiiiiiAi.z).a4, vi (L0.getD v2 R_iiiiiiAi.z).a5, ms E_ii (L0.getD v2 R_iiiiiiAi.z).a6, vi (L0.getD v2 R_iiiiiiAi.z).a7] ++ (Zb E_iiiiiiAi ((v1.drop v3).take (v1.length - v3))) = (Zb E_iiiiiiAi (([(⟨(L0.getD v2 R_iiiiiiAi.z).a0, (L0.getD v2 R_iiiiiiAi.z).a1, (L0.getD v2 R_iiiiiiAi.z).a2, (L0.getD v2 R_iiiiiiAi.z).a3, (L0.getD v2 R_iiiiiiAi.z).a4, (L0.getD v2 R_iiiiiiAi.z).a5, (L0.getD v2 R_iiiiiiAi.z).a6, (L0.getD v2 R_iiiiiiAi.z).a7⟩ : R_iiiiiiAi)] : List R_iiiiiiAi) ++ ((v1.drop v3).take (v1.length - v3))))), true), (dP (v3 ≤ v1.length ∧ v1.length ≤ v1.length), true), (dS v1.length, true), ((v3 : Int) == Int.ofNat v3, true), (Z1 (Zl 8 (List.drop (0 + (v2 * 8)) (Zb E_iiiiiiAi L0))) [.i (L0.getD v2 R_iiiiiiAi.z).a0, .i (L0.getD v2 R_iiiiiiAi.z).a1, .i (L0.getD v2 R_iiiiiiAi.z).a2, .i (L0.getD v2 R_iiiiiiAi.z).a3, .i (L0.getD v2 R_iiiiiiAi.z).a4, .i (L0.getD v2 R_iiiiiiAi.z).a5, (mc E_ii (L0.getD v2 R_iiiiiiAi.z).a6), .i (L0.getD v2 R_iiiiiiAi.z).a7], true), (Nat.blt v2 L0.length, true), ((v2 : Int) == Int.ofNat v2, true), (dP (0 = (v3 - 0) ∧ Zl ((v3 - 0) * 8) (List.drop (0 + (0 * 8)) (Zb E_iiiiiiAi v1)) = some [] ∧ Zn Za5 [] = true), true), (dP (0 ≤ v3 ∧ v3 ≤ v1.length), true), ((v3 : Int) == Int.ofNat v3, true), (dS 0, true), ((decide ((v1.getD v3 R_iiiiiiAi.z).a4 < (L0.getD v2 R_iiiiiiAi.z).a4)), false), (Z1 (Zl 1 (List.drop ((0 + (v2 * 8)) + 4) (Zb E_iiiiiiAi L0))) [.i (L0.getD v2 R_iiiiiiAi.z).a4], true), (Nat.blt v2 L0.length, true), ((v2 : Int) == Int.ofNat v2, true), (Z1 (Zl 1 (List.drop ((0 + (v3 * 8)) + 4) (Zb E_iiiiiiAi v1))) [.i (v1.getD v3 R_iiiiiiAi.z).a4], true), (Nat.blt v3 v1.length, true), ((v3 : Int) == Int.ofNat v3, true), ((decide ((v3 : Int) < (v1.length : Int))), true)]) rfl (show 1 ∈ Zv (ZbD 2) from by decide +kernel) (fun gv => by kernel_rfl) (Za (beq_iff_eq.2 ((wrap_i64 ltA).trans (by first | rfl | omega))) <| Za (Ze ⟨⟨rfl, (ZjI (E := E_iiiiiiAi) (L := v1) (a := v3) (n := (v1.length - v3)) (by omega) (by show _ = _ * 8; omega) (show _ = _ * 8 from rfl) rfl)⟩, by omega, by omega, ltA, by omega, (Zf2 (E := E_iiiiiiAi) (L := ([(⟨(L0.getD v2 R_iiiiiiAi.z).a0, (L0.getD v2 R_iiiiiiAi.z).a1, (L0.getD v2 R_iiiiiiAi.z).a2, (L0.getD v2 R_iiiiiiAi.z).a3, (L0.getD v2 R_iiiiiiAi.z).a4, (L0.getD v2 R_iiiiiiAi.z).a5, (L0.getD v2 R_iiiiiiAi.z).a6, (L0.getD v2 R_iiiiiiAi.z).a7⟩ : R_iiiiiiAi)] : List R_iiiiiiAi)) (M := ((v1.drop v3).take (v1.length - v3))) (n := 1) (show _ = _ * 8 from rfl) ltA (R := (([(⟨(L0.getD v2 R_iiiiiiAi.z).a0, (L0.getD v2 R_iiiiiiAi.z).a1, (L0.getD v2 R_iiiiiiAi.z).a2, (L0.getD v2 R_iiiiiiAi.z).a3, (L0.getD v2 R_iiiiiiAi.z).a4, (L0.getD v2 R_iiiiiiAi.z).a5, (L0.getD v2 R_iiiiiiAi.z).a6, (L0.getD v2 R_iiiiiiAi.z).a7⟩ : R_iiiiiiAi)] : List R_iiiiiiAi) ++ ((v1.drop v3).take (v1.length - v3)))) (by rw [List.take_of_length_le ltA]))⟩) <| Za (Ze ⟨ltA, ltA⟩) <| oR <| oI <| Za (Zo (E := E_iiiiiiAi) (L := L0) (i := v2) (q := 0) (by omega) (show (0 + (v2 * 8)) = v2 * 8 + 0 from by omega) (show 0 + 8 ≤ 8 from by decide) rfl rfl) <| oB <| oI <| Za (Ze ⟨by omega, by rw [show (v3 - 0) = 0 by omega]; rfl, rfl⟩) <| Za (Ze ⟨ltA, ltA⟩) <| oI <| oR <| oN <| Za (Zo (E := E_iiiiiiAi) (L := L0) (i := v2) (q := 4) (by omega) (show ((0 + (v2 * 8)) + 4) = v2 * 8 + 4 from by omega) (show 4 + 1 ≤ 8 from by decide) rfl rfl) <| oB <| oI <| Za (Zo (E := E_iiiiiiAi) (L := v1) (i := v3) (q := 4) (by omega) (show ((0 + (v3 * 8)) + 4) = v3 * 8 + 4 from by omega) (show 4 + 1 ≤ 8 from by decide) rfl rfl) <| oB <| oI <| oY Zf) rfl (by decide) (by rfl) (fun _ => ⟨rr, ⟨⟨Eq.trans (show (vs 1 0 (([(⟨(L0.getD v2 R_iiiiiiAi.z).a0, (L0.getD v2 R_iiiiiiAi.z).a1, (L0.getD v2 R_iiiiiiAi.z).a2, (L0.getD v2 R_iiiiiiAi.z).a3, (L0.getD v2 R_iiiiiiAi.z).a4, (L0.getD v2 R_iiiiiiAi.z).a5, (L0.getD v2 R_iiiiiiAi.z).a6, (L0.getD v2 R_iiiiiiAi.z).a7⟩ : R_iiiiiiAi)] : List R_iiiiiiAi) ++ ((v1.drop v3).take (v1.length - v3))).length (([(⟨(L0.getD v2 R_iiiiiiAi.z).a0, (L0.getD v2 R_iiiiiiAi.z).a1, (L0.getD v2 R_iiiiiiAi.z).a2, (L0.getD v2 R_iiiiiiAi.z).a3, (L0.getD v2 R_iiiiiiAi.z).a4, (L0.getD v2 R_iiiiiiAi.z).a5, (L0.getD v2 R_iiiiiiAi.z).a6, (L0.getD v2 R_iiiiiiAi.z).a7⟩ : R_iiiiiiAi)] : List R_iiiiiiAi) ++ ((v1.drop v3).take (v1.length - v3))).length : Value) = vs 1 0 (1 + (v1.length - v3)) (1 + (v1.length - v3)) from (Zdp rfl eqA eqA)) (by rfl), by rfl⟩, ⟨rr, trivial⟩⟩⟩) ⟨(Zi (E := E_iiiiiiAi) (α := R_iiiiiiAi) _ L0 _), ⟨(Zi (E := E_iiiiiiAi) (α := R_iiiiiiAi) _ (([(⟨(L0.getD v2 R_iiiiiiAi.z).a0, (L0.getD v2 R_iiiiiiAi.z).a1, (L0.getD v2 R_iiiiiiAi.z).a2, (L0.getD v2 R_iiiiiiAi.z).a3, (L0.getD v2 R_iiiiiiAi.z).a4, (L0.getD v2 R_iiiiiiAi.z).a5, (L0.getD v2 R_iiiiiiAi.z).a6, (L0.getD v2 R_iiiiiiAi.z).a7⟩ : R_iiiiiiAi)] : List R_iiiiiiAi) ++ ((v1.drop v3).take (v1.length - v3))) _), trivial⟩⟩
      ·
       exact Mach.ok_none
     ·
      exact Mach.ok_none
    ·
     refine Mach.ok_ite (fun g4 => ?_) (fun g4 => ?_)
     ·
      refine Mach.ok_ite (fun g5 => ?_) (fun g5 => ?_)
      ·
       refine Mach.ok_ite (fun g6 => ?_) (fun g6 => ?_)
       ·
        refine Mach.ok_ite (fun g7 => ?_) (fun g7 => ?_)
        ·
         exact Mach.ok_next (M := Zx L0 N) (cd := 1000000) (cm := 0) (y := (.h1m1 ((((v1.take (v3 - 0)) ++ ([(⟨(L0.getD v2 R_iiiiiiAi.z).a0, (L0.getD v2 R_iiiiiiAi.z).a1, (L0.getD v2 R_iiiiiiAi.z).a2, (L0.getD v2 R_iiiiiiAi.z).a3, (L0.getD v2 R_iiiiiiAi.z).a4, (L0.getD v2 R_iiiiiiAi.z).a5, (L0.getD v2 R_iiiiiiAi.z).a6, (L0.getD v2 R_iiiiiiAi.z).a7⟩ : R_iiiiiiAi)] : List R_iiiiiiAi)) ++ ((v1.drop v3).take (v1.length - v3)))) ((v2 + 1)) : Zk)) (fu := 4000) (orc := (Zm [(0, true), (1, false)] [(0, (((v2 + 1) : Nat) : Int))] [(0, v3), (1, v2), (2, v2)] [(0, [.i (v1.getD v3 R_iiiiiiAi.z).a4]), (1, [.i (L0.getD v2 R_iiiiiiAi.z).a4]), (2, [.i (L0.getD v2 R_iiiiiiAi.z).a0, .i (L0.getD v2 R_iiiiiiAi.z).a1, .i (L0.getD v2 R_iiiiiiAi.z).a2, .i (L0.getD v2 R_iiiiiiAi.z).a3, .i (L0.getD v2 R_iiiiiiAi.z).a4, .i (L0.getD v2 R_iiiiiiAi.z).a5, (mc E_ii (L0.getD v2 R_iiiiiiAi.z).a6), .i (L0.getD v2 R_iiiiiiAi.z).a7])] [(0, .sl 0 v3), (1, .ap (v3 - 0) (Zb E_iiiiiiAi (v1.take (v3 - 0))) (Zb E_iiiiiiAi (v1.take (v3 - 0)))), (2, .ap 1 [vi (L0.getD v2 R_iiiiiiAi.z).a0, vi (L0.getD v2 R_iiiiiiAi.z).a1, vi (L0.getD v2 R_iiiiiiAi.z).a2, vi (L0.getD v2 R_iiiiiiAi.z).a3, vi (L0.getD v2 R_iiiiiiAi.z).a4, vi (L0.getD v2 R_iiiiiiAi.z).a5, ms E_ii (L0.getD v2 R_iiiiiiAi.z).a6, vi (L0.getD v2 R_iiiiiiAi.z).a7] (Zb E_iiiiiiAi ((v1.take (v3 - 0)) ++ ([(⟨(L0.getD v2 R_iiiiiiAi.z).a0, (L0.getD v2 R_iiiiiiAi.z).a1, (L0.getD v2 R_iiiiiiAi.z).a2, (L0.getD v2 R_iiiiiiAi.z).a3, (L0.getD v2 R_iiiiiiAi.z).a4, (L0.getD v2 R_iiiiiiAi.z).a5, (L0.getD v2 R_iiiiiiAi.z).a6, (L0.getD v2 R_iiiiiiAi.z).a7⟩ : R_iiiiiiAi)] : List R_iiiiiiAi)))), (3, .sl v3 v1.length), (4, .ap (v1.length - v3) (Zb E_iiiiiiAi ((v1.drop v3).take (v1.length - v3))) (Zb E_iiiiiiAi (((v1.take (v3 - 0)) ++ ([(⟨(L0.getD v2 R_iiiiiiAi.z).a0, (L0.getD v2 R_iiiiiiAi.z).a1, (L0.getD v2 R_iiiiiiAi.z).a2, (L0.getD v2 R_iiiiiiAi.z).a3, (L0.getD v2 R_iiiiiiAi.z).a4, (L0.getD v2 R_iiiiiiAi.z).a5, (L0.getD v2 R_iiiiiiAi.z).a6, (L0.getD v2 R_iiiiiiAi.z).a7⟩ : R_iiiiiiAi)] : List R_iiiiiiAi)) ++ ((v1.drop v3).take (v1.length - v3)))))])) (live := [0, 5]) (tv := fun _ => [some (vs 0 0 L0.length L0.length), some (vs 5 0 (((v3 - 0) + 1) + (v1.length - v3)) (((v3 - 0) + 1) + (v1.length - v3))), some (vi (((v2 + 1) : Nat) : Int))]) (bl := [some (.cells (Zb E_iiiiiiAi L0) 27), some (.cells (Zb E_iiiiiiAi (((v1.take (v3 - 0)) ++ ([(⟨(L0.getD v2 R_iiiiiiAi.z).a0, (L0.getD v2 R_iiiiiiAi.z).a1, (L0.getD v2 R_iiiiiiAi.z).a2, (L0.getD v2 R_iiiiiiAi.z).a3, (L0.getD v2 R_iiiiiiAi.z).a4, (L0.getD v2 R_iiiiiiAi.z).a5, (L0.getD v2 R_iiiiiiAi.z).a6, (L0.getD v2 R_iiiiiiAi.z).a7⟩ : R_iiiiiiAi)] : List R_iiiiiiAi)) ++ ((v1.drop v3).take (v1.length - v3)))) 27)]) (ob := [((IntKind.i64.wrap ((v2 : Int) + (1 : Int))) == (((v2 + 1) : Nat) : Int), true), (dP (((v1.length - v3) = (v1.length - v3) ∧ Zl ((v1.length - v3) * 8) (List.drop (0 + (v3 * 8)) (Zb E_iiiiiiAi v1)) = some (Zb E_iiiiiiAi ((v1.drop v3).take (v1.length - v3))) ∧ Zn Za5 (Zb E_iiiiiiAi ((v1.drop v3).take (v1.length - v3))) = true) ∧ 0 < (v1.length - v3) ∧ (v1.length - v3) ≤ 100000 ∧ ((v3 - 0) + 1) < ((v3 - 0) + 1) + (v1.length - v3) ∧ ((v3 - 0) + 1) ≤ 100000 ∧ ((v3 - 0) + 1) * 8 ≤ (List.length (Zb E_iiiiiiAi ((v1.take (v3 - 0)) ++ ([(⟨(L0.getD v2 R_iiiiiiAi.z).a0, (L0.getD v2 R_iiiiiiAi.z).a1, (L0.getD v2 R_iiiiiiAi.z).a2, (L0.getD v2 R_iiiiiiAi.z).a3, (L0.getD v2 R_iiiiiiAi.z).a4, (L0.getD v2 R_iiiiiiAi.z).a5, (L0.getD v2 R_iiiiiiAi.z).a6, (L0.getD v2 R_iiiiiiAi.z).a7⟩ : R_iiiiiiAi)] : List R_iiiiiiAi)))) ∧ List.take (((v3 - 0) + 1) * 8) (Zb E_iiiiiiAi ((v1.take (v3 - 0)) ++ ([(⟨(L0.getD v2 R_iiiiiiAi.z).a0, (L0.getD v2 R_iiiiiiAi.z).a1, (L0.getD v2 R_iiiiiiAi.z).a2, (L0.getD v2 R_iiiiiiAi.z).a3, (L0.getD v2 R_iiiiiiAi.z).a4, (L0.getD v2 R_iiiiiiAi.z).a5, (L0.getD v2 R_iiiiiiAi.z).a6, (L0.getD v2 R_iiiiiiAi.z).a7⟩ : R_iiiiiiAi)] : List R_iiiiiiAi))) ++ (Zb E_iiiiiiAi ((v1.drop v3).take (v1.length - v3))) = (Zb E_iiiiiiAi (((v1.take (v3 - 0)) ++ ([(⟨(L0.getD v2 R_iiiiiiAi.z).a0, (L0.getD v2 R_iiiiiiAi.z).a1, (L0.getD v2 R_iiiiiiAi.z).a2, (L0.getD v2 R_iiiiiiAi.z).a3, (L0.getD v2 R_iiiiiiAi.z).a4, (L0.getD v2 R_iiiiiiAi.z).a5, (L0.getD v2 R_iiiiiiAi.z).a6, (L0.getD v2 R_iiiiiiAi.z).a7⟩ : R_iiiiiiAi)] : List R_iiiiiiAi)) ++ ((v1.drop v3).take (v1.length - v3))))), true), (dP (v3 ≤ v1.length ∧ v1.length ≤ v1.length), true), (dS v1.length, true), ((v3 : Int) == Int.ofNat v3, true), (dP ((1 = 1 ∧ Zl (1 * 8) (List.drop 0 [vi (L0.getD v2 R_iiiiiiAi.z).a0, vi (L0.getD v2 R_iiiiiiAi.z).a1, vi (L0.getD v2 R_iiiiiiAi.z).a2, vi (L0.getD v2 R_iiiiiiAi.z).a3, vi (L0.getD v2 R_iiiiiiAi.z).a4, vi (L0.getD v2 R_iiiiiiAi.z).a5, ms E_ii (L0.getD v2 R_iiiiiiAi.z).a6, vi (L0.getD v2 R_iiiiiiAi.z).a7]) = some [vi (L0.getD v2 R_iiiiiiAi.z).a0, vi (L0.getD v2 R_iiiiiiAi.z).a1, vi (L0.getD v2 R_iiiiiiAi.z).a2, vi (L0.getD v2 R_iiiiiiAi.z).a3, vi (L0.getD v2 R_iiiiiiAi.z).a4, vi (L0.getD v2 R_iiiiiiAi.z).a5, ms E_ii (L0.getD v2 R_iiiiiiAi.z).a6, vi (L0.getD v2 R_iiiiiiAi.z).a7] ∧ Zn Za5 [vi (L0.getD v2 R_iiiiiiAi.z).a0, vi (L0.getD v2 R_iiiiiiAi.z).a1, vi (L0.getD v2 R_iiiiiiAi.z).a2, vi (L0.getD v2 R_iiiiiiAi.z).a3, vi (L0.getD v2 R_iiiiiiAi.z).a4, vi (L0.getD v2 R_iiiiiiAi.z).a5, ms E_ii (L0.getD v2 R_iiiiiiAi.z).a6, vi (L0.getD v2 R_iiiiiiAi.z).a7] = true) ∧ 0 < 1 ∧ 1 ≤ 100000 ∧ (v3 - 0) < (v3 - 0) + 1 ∧ (v3 - 0) ≤ 100000 ∧ (v3 - 0) * 8 ≤ (List.length (Zb E_iiiiiiAi (v1.take (v3 - 0)))) ∧ List.take ((v3 - 0) * 8) (Zb E_iiiiiiAi (v1.take (v3 - 0))) ++ [vi (L0.getD v2 R_iiiiiiAi.z).a0, vi (L0.getD v2 R_iiiiiiAi.z).a1, vi (L0.getD v2 R_iiiiiiAi.z).a2, vi (L0.getD v2 R_iiiiiiAi.z).a3, vi (L0.getD v2 R_iiiiiiAi.z).a4, vi (L0.getD v2 R_iiiiiiAi.z).a5, ms E_ii (L0.getD v2 R_iiiiiiAi.z).a6, vi (L0.getD v2 R_iiiiiiAi.z).a7] = (Zb E_iiiiiiAi ((v1.take (v3 - 0)) ++ ([(⟨(L0.getD v2 R_iiiiiiAi.z).a0, (L0.getD v2 R_iiiiiiAi.z).a1, (L0.getD v2 R_iiiiiiAi.z).a2, (L0.getD v2 R_iiiiiiAi.z).a3, (L0.getD v2 R_iiiiiiAi.z).a4, (L0.getD v2 R_iiiiiiAi.z).a5, (L0.getD v2 R_iiiiiiAi.z).a6, (L0.getD v2 R_iiiiiiAi.z).a7⟩ : R_iiiiiiAi)] : List R_iiiiiiAi)))), true), (Z1 (Zl 8 (List.drop (0 + (v2 * 8)) (Zb E_iiiiiiAi L0))) [.i (L0.getD v2 R_iiiiiiAi.z).a0, .i (L0.getD v2 R_iiiiiiAi.z).a1, .i (L0.getD v2 R_iiiiiiAi.z).a2, .i (L0.getD v2 R_iiiiiiAi.z).a3, .i (L0.getD v2 R_iiiiiiAi.z).a4, .i (L0.getD v2 R_iiiiiiAi.z).a5, (mc E_ii (L0.getD v2 R_iiiiiiAi.z).a6), .i (L0.getD v2 R_iiiiiiAi.z).a7], true), (Nat.blt v2 L0.length, true), ((v2 : Int) == Int.ofNat v2, true), (dP (((v3 - 0) = (v3 - 0) ∧ Zl ((v3 - 0) * 8) (List.drop (0 + (0 * 8)) (Zb E_iiiiiiAi v1)) = some (Zb E_iiiiiiAi (v1.take (v3 - 0))) ∧ Zn Za5 (Zb E_iiiiiiAi (v1.take (v3 - 0))) = true) ∧ 0 < (v3 - 0) ∧ (v3 - 0) ≤ 100000 ∧ (Zb E_iiiiiiAi (v1.take (v3 - 0))) = (Zb E_iiiiiiAi (v1.take (v3 - 0)))), true), (dP (0 ≤ v3 ∧ v3 ≤ v1.length), true), ((v3 : Int) == Int.ofNat v3, true), (dS 0, true), ((decide ((v1.getD v3 R_iiiiiiAi.z).a4 < (L0.getD v2 R_iiiiiiAi.z).a4)), false), (Z1 (Zl 1 (List.drop ((0 + (v2 * 8)) + 4) (Zb E_iiiiiiAi L0))) [.i (L0.getD v2 R_iiiiiiAi.z).a4], true), (Nat.blt v2 L0.length, true), ((v2 : Int) == Int.ofNat v2, true), (Z1 (Zl 1 (List.drop ((0 + (v3 * 8)) + 4) (Zb E_iiiiiiAi v1))) [.i (v1.getD v3 R_iiiiiiAi.z).a4], true), (Nat.blt v3 v1.length, true), ((v3 : Int) == Int.ofNat v3, true), ((decide ((v3 : Int) < (v1.length : Int))), true)]) rfl (show 1 ∈ Zv (ZbD 2) from by decide +kernel) (fun gv => by kernel_rfl) (Za (beq_iff_eq.2 ((wrap_i64 ltA).trans (by first | rfl | omega))) <| Za (Ze ⟨⟨rfl, (ZjI (E := E_iiiiiiAi) (L := v1) (a := v3) (n := (v1.length - v3)) (by omega) (by show _ = _ * 8; omega) (show _ = _ * 8 from rfl) rfl)⟩, by omega, by omega, ltA, by omega, (Zf2 (E := E_iiiiiiAi) (L := ((v1.take (v3 - 0)) ++ ([(⟨(L0.getD v2 R_iiiiiiAi.z).a0, (L0.getD v2 R_iiiiiiAi.z).a1, (L0.getD v2 R_iiiiiiAi.z).a2, (L0.getD v2 R_iiiiiiAi.z).a3, (L0.getD v2 R_iiiiiiAi.z).a4, (L0.getD v2 R_iiiiiiAi.z).a5, (L0.getD v2 R_iiiiiiAi.z).a6, (L0.getD v2 R_iiiiiiAi.z).a7⟩ : R_iiiiiiAi)] : List R_iiiiiiAi))) (M := ((v1.drop v3).take (v1.length - v3))) (n := ((v3 - 0) + 1)) (show _ = _ * 8 from rfl) ltA (R := (((v1.take (v3 - 0)) ++ ([(⟨(L0.getD v2 R_iiiiiiAi.z).a0, (L0.getD v2 R_iiiiiiAi.z).a1, (L0.getD v2 R_iiiiiiAi.z).a2, (L0.getD v2 R_iiiiiiAi.z).a3, (L0.getD v2 R_iiiiiiAi.z).a4, (L0.getD v2 R_iiiiiiAi.z).a5, (L0.getD v2 R_iiiiiiAi.z).a6, (L0.getD v2 R_iiiiiiAi.z).a7⟩ : R_iiiiiiAi)] : List R_iiiiiiAi)) ++ ((v1.drop v3).take (v1.length - v3)))) (by rw [List.take_of_length_le ltA]))⟩) <| Za (Ze ⟨ltA, ltA⟩) <| oR <| oI <| Za (Ze ⟨⟨rfl, ⟨rfl, rfl⟩⟩, by omega, by omega, ltA, by omega, (Zf2 (E := E_iiiiiiAi) (L := (v1.take (v3 - 0))) (M := ([(⟨(L0.getD v2 R_iiiiiiAi.z).a0, (L0.getD v2 R_iiiiiiAi.z).a1, (L0.getD v2 R_iiiiiiAi.z).a2, (L0.getD v2 R_iiiiiiAi.z).a3, (L0.getD v2 R_iiiiiiAi.z).a4, (L0.getD v2 R_iiiiiiAi.z).a5, (L0.getD v2 R_iiiiiiAi.z).a6, (L0.getD v2 R_iiiiiiAi.z).a7⟩ : R_iiiiiiAi)] : List R_iiiiiiAi)) (n := (v3 - 0)) (show _ = _ * 8 from rfl) ltA (R := ((v1.take (v3 - 0)) ++ ([(⟨(L0.getD v2 R_iiiiiiAi.z).a0, (L0.getD v2 R_iiiiiiAi.z).a1, (L0.getD v2 R_iiiiiiAi.z).a2, (L0.getD v2 R_iiiiiiAi.z).a3, (L0.getD v2 R_iiiiiiAi.z).a4, (L0.getD v2 R_iiiiiiAi.z).a5, (L0.getD v2 R_iiiiiiAi.z).a6, (L0.getD v2 R_iiiiiiAi.z).a7⟩ : R_iiiiiiAi)] : List R_iiiiiiAi))) (by rw [List.take_of_length_le ltA]))⟩) <| Za (Zo (E := E_iiiiiiAi) (L := L0) (i := v2) (q := 0) (by omega) (show (0 + (v2 * 8)) = v2 * 8 + 0 from by omega) (show 0 + 8 ≤ 8 from by decide) rfl rfl) <| oB <| oI <| Za (Ze ⟨⟨rfl, (ZjI (E := E_iiiiiiAi) (L := v1) (a := 0) (n := (v3 - 0)) (by omega) (by show _ = _ * 8; omega) (show _ = _ * 8 from rfl) (by rw [List.drop_zero]))⟩, by omega, by omega, rfl⟩) <| Za (Ze ⟨ltA, ltA⟩) <| oI <| oR <| oN <| Za (Zo (E := E_iiiiiiAi) (L := L0) (i := v2) (q := 4) (by omega) (show ((0 + (v2 * 8)) + 4) = v2 * 8 + 4 from by omega) (show 4 + 1 ≤ 8 from by decide) rfl rfl) <| oB <| oI <| Za (Zo (E := E_iiiiiiAi) (L := v1) (i := v3) (q := 4) (by omega) (show ((0 + (v3 * 8)) + 4) = v3 * 8 + 4 from by omega) (show 4 + 1 ≤ 8 from by decide) rfl rfl) <| oB <| oI <| oY Zf) rfl (by decide) (by rfl) (fun _ => ⟨rr, ⟨⟨Eq.trans (show (vs 1 0 (((v1.take (v3 - 0)) ++ ([(⟨(L0.getD v2 R_iiiiiiAi.z).a0, (L0.getD v2 R_iiiiiiAi.z).a1, (L0.getD v2 R_iiiiiiAi.z).a2, (L0.getD v2 R_iiiiiiAi.z).a3, (L0.getD v2 R_iiiiiiAi.z).a4, (L0.getD v2 R_iiiiiiAi.z).a5, (L0.getD v2 R_iiiiiiAi.z).a6, (L0.getD v2 R_iiiiiiAi.z).a7⟩ : R_iiiiiiAi)] : List R_iiiiiiAi)) ++ ((v1.drop v3).take (v1.length - v3))).length (((v1.take (v3 - 0)) ++ ([(⟨(L0.getD v2 R_iiiiiiAi.z).a0, (L0.getD v2 R_iiiiiiAi.z).a1, (L0.getD v2 R_iiiiiiAi.z).a2, (L0.getD v2 R_iiiiiiAi.z).a3, (L0.getD v2 R_iiiiiiAi.z).a4, (L0.getD v2 R_iiiiiiAi.z).a5, (L0.getD v2 R_iiiiiiAi.z).a6, (L0.getD v2 R_iiiiiiAi.z).a7⟩ : R_iiiiiiAi)] : List R_iiiiiiAi)) ++ ((v1.drop v3).take (v1.length - v3))).length : Value) = vs 1 0 (((v3 - 0) + 1) + (v1.length - v3)) (((v3 - 0) + 1) + (v1.length - v3)) from (Zdp rfl eqA eqA)) (by rfl), by rfl⟩, ⟨rr, trivial⟩⟩⟩) ⟨(Zi (E := E_iiiiiiAi) (α := R_iiiiiiAi) _ L0 _), ⟨(Zi (E := E_iiiiiiAi) (α := R_iiiiiiAi) _ (((v1.take (v3 - 0)) ++ ([(⟨(L0.getD v2 R_iiiiiiAi.z).a0, (L0.getD v2 R_iiiiiiAi.z).a1, (L0.getD v2 R_iiiiiiAi.z).a2, (L0.getD v2 R_iiiiiiAi.z).a3, (L0.getD v2 R_iiiiiiAi.z).a4, (L0.getD v2 R_iiiiiiAi.z).a5, (L0.getD v2 R_iiiiiiAi.z).a6, (L0.getD v2 R_iiiiiiAi.z).a7⟩ : R_iiiiiiAi)] : List R_iiiiiiAi)) ++ ((v1.drop v3).take (v1.length - v3))) _), trivial⟩⟩
        ·
         exact Mach.ok_none
       ·
        exact Mach.ok_none
      ·
       exact Mach.ok_none
     ·
      exact Mach.ok_none
  ·
   exact Mach.ok_none
 ·
  refine Mach.ok_ite (fun g1 => ?_) (fun g1 => ?_)
  ·
   refine Mach.ok_ite (fun g2 => ?_) (fun g2 => ?_)
   ·
    refine Mach.ok_ite (fun g3 => ?_) (fun g3 => ?_)
    ·
     refine Mach.ok_ite (fun g4 => ?_) (fun g4 => ?_)
     ·
      exact Mach.ok_next (M := Zx L0 N) (cd := 1000000) (cm := 0) (y := (.h1m1 (([(⟨(L0.getD v2 R_iiiiiiAi.z).a0, (L0.getD v2 R_iiiiiiAi.z).a1, (L0.getD v2 R_iiiiiiAi.z).a2, (L0.getD v2 R_iiiiiiAi.z).a3, (L0.getD v2 R_iiiiiiAi.z).a4, (L0.getD v2 R_iiiiiiAi.z).a5, (L0.getD v2 R_iiiiiiAi.z).a6, (L0.getD v2 R_iiiiiiAi.z).a7⟩ : R_iiiiiiAi)] : List R_iiiiiiAi)) ((v2 + 1)) : Zk)) (fu := 4000) (orc := (Zm [(0, false)] [(0, (((v2 + 1) : Nat) : Int))] [(0, v2)] [(0, [.i (L0.getD v2 R_iiiiiiAi.z).a0, .i (L0.getD v2 R_iiiiiiAi.z).a1, .i (L0.getD v2 R_iiiiiiAi.z).a2, .i (L0.getD v2 R_iiiiiiAi.z).a3, .i (L0.getD v2 R_iiiiiiAi.z).a4, .i (L0.getD v2 R_iiiiiiAi.z).a5, (mc E_ii (L0.getD v2 R_iiiiiiAi.z).a6), .i (L0.getD v2 R_iiiiiiAi.z).a7])] [(0, .sl 0 v3), (1, .ap0), (3, .sl v3 v1.length), (4, .ap0)])) (live := [0, 3]) (tv := fun _ => [some (vs 0 0 L0.length L0.length), some (vs 3 0 1 1), some (vi (((v2 + 1) : Nat) : Int))]) (bl := [some (.cells (Zb E_iiiiiiAi L0) 27), some (.cells [vi (L0.getD v2 R_iiiiiiAi.z).a0, vi (L0.getD v2 R_iiiiiiAi.z).a1, vi (L0.getD v2 R_iiiiiiAi.z).a2, vi (L0.getD v2 R_iiiiiiAi.z).a3, vi (L0.getD v2 R_iiiiiiAi.z).a4, vi (L0.getD v2 R_iiiiiiAi.z).a5, ms E_ii (L0.getD v2 R_iiiiiiAi.z).a6, vi (L0.getD v2 R_iiiiiiAi.z).a7] 27)]) (ob := [((IntKind.i64.wrap ((v2 : Int) + (1 : Int))) == (((v2 + 1) : Nat) : Int), true), (dP (0 = (v1.length - v3) ∧ Zl ((v1.length - v3) * 8) (List.drop (0 + (v3 * 8)) (Zb E_iiiiiiAi v1)) = some [] ∧ Zn Za5 [] = true), true), (dP (v3 ≤ v1.length ∧ v1.length ≤ v1.length), true), (dS v1.length, true), ((v3 : Int) == Int.ofNat v3, true), (Z1 (Zl 8 (List.drop (0 + (v2 * 8)) (Zb E_iiiiiiAi L0))) [.i (L0.getD v2 R_iiiiiiAi.z).a0, .i (L0.getD v2 R_iiiiiiAi.z).a1, .i (L0.getD v2 R_iiiiiiAi.z).a2, .i (L0.getD v2 R_iiiiiiAi.z).a3, .i (L0.getD v2 R_iiiiiiAi.z).a4, .i (L0.getD v2 R_iiiiiiAi.z).a5, (mc E_ii (L0.getD v2 R_iiiiiiAi.z).a6), .i (L0.getD v2 R_iiiiiiAi.z).a7], true), (Nat.blt v2 L0.length, true), ((v2 : Int) == Int.ofNat v2, true), (dP (0 = (v3 - 0) ∧ Zl ((v3 - 0) * 8) (List.drop (0 + (0 * 8)) (Zb E_iiiiiiAi v1)) = some [] ∧ Zn Za5 [] = true), true), (dP (0 ≤ v3 ∧ v3 ≤ v1.length), true), ((v3 : Int) == Int.ofNat v3, true), (dS 0, true), ((decide ((v3 : Int) < (v1.length : Int))), false)]) rfl (show 1 ∈ Zv (ZbD 2) from by decide +kernel) (fun gv => by kernel_rfl) (Za (beq_iff_eq.2 ((wrap_i64 ltA).trans (by first | rfl | omega))) <| Za (Ze ⟨by omega, by rw [show (v1.length - v3) = 0 by omega]; rfl, rfl⟩) <| Za (Ze ⟨ltA, ltA⟩) <| oR <| oI <| Za (Zo (E := E_iiiiiiAi) (L := L0) (i := v2) (q := 0) (by omega) (show (0 + (v2 * 8)) = v2 * 8 + 0 from by omega) (show 0 + 8 ≤ 8 from by decide) rfl rfl) <| oB <| oI <| Za (Ze ⟨by omega, by rw [show (v3 - 0) = 0 by omega]; rfl, rfl⟩) <| Za (Ze ⟨ltA, ltA⟩) <| oI <| oR <| oN Zf) rfl (by decide) (by rfl) (fun _ => ⟨rr, ⟨⟨Eq.trans (show (vs 1 0 ([(⟨(L0.getD v2 R_iiiiiiAi.z).a0, (L0.getD v2 R_iiiiiiAi.z).a1, (L0.getD v2 R_iiiiiiAi.z).a2, (L0.getD v2 R_iiiiiiAi.z).a3, (L0.getD v2 R_iiiiiiAi.z).a4, (L0.getD v2 R_iiiiiiAi.z).a5, (L0.getD v2 R_iiiiiiAi.z).a6, (L0.getD v2 R_iiiiiiAi.z).a7⟩ : R_iiiiiiAi)] : List R_iiiiiiAi).length ([(⟨(L0.getD v2 R_iiiiiiAi.z).a0, (L0.getD v2 R_iiiiiiAi.z).a1, (L0.getD v2 R_iiiiiiAi.z).a2, (L0.getD v2 R_iiiiiiAi.z).a3, (L0.getD v2 R_iiiiiiAi.z).a4, (L0.getD v2 R_iiiiiiAi.z).a5, (L0.getD v2 R_iiiiiiAi.z).a6, (L0.getD v2 R_iiiiiiAi.z).a7⟩ : R_iiiiiiAi)] : List R_iiiiiiAi).length : Value) = vs 1 0 1 1 from (Zdp rfl eqA eqA)) (by rfl), by rfl⟩, ⟨rr, trivial⟩⟩⟩) ⟨(Zi (E := E_iiiiiiAi) (α := R_iiiiiiAi) _ L0 _), ⟨(Zgt (E := E_iiiiiiAi) _ (L := ([(⟨(L0.getD v2 R_iiiiiiAi.z).a0, (L0.getD v2 R_iiiiiiAi.z).a1, (L0.getD v2 R_iiiiiiAi.z).a2, (L0.getD v2 R_iiiiiiAi.z).a3, (L0.getD v2 R_iiiiiiAi.z).a4, (L0.getD v2 R_iiiiiiAi.z).a5, (L0.getD v2 R_iiiiiiAi.z).a6, (L0.getD v2 R_iiiiiiAi.z).a7⟩ : R_iiiiiiAi)] : List R_iiiiiiAi)) _ (show ([vi (L0.getD v2 R_iiiiiiAi.z).a0, vi (L0.getD v2 R_iiiiiiAi.z).a1, vi (L0.getD v2 R_iiiiiiAi.z).a2, vi (L0.getD v2 R_iiiiiiAi.z).a3, vi (L0.getD v2 R_iiiiiiAi.z).a4, vi (L0.getD v2 R_iiiiiiAi.z).a5, ms E_ii (L0.getD v2 R_iiiiiiAi.z).a6, vi (L0.getD v2 R_iiiiiiAi.z).a7] : List Value) = Zb E_iiiiiiAi ([(⟨(L0.getD v2 R_iiiiiiAi.z).a0, (L0.getD v2 R_iiiiiiAi.z).a1, (L0.getD v2 R_iiiiiiAi.z).a2, (L0.getD v2 R_iiiiiiAi.z).a3, (L0.getD v2 R_iiiiiiAi.z).a4, (L0.getD v2 R_iiiiiiAi.z).a5, (L0.getD v2 R_iiiiiiAi.z).a6, (L0.getD v2 R_iiiiiiAi.z).a7⟩ : R_iiiiiiAi)] : List R_iiiiiiAi) from rfl)), trivial⟩⟩
     ·
      exact Mach.ok_none
    ·
     exact Mach.ok_none
   ·
    refine Mach.ok_ite (fun g3 => ?_) (fun g3 => ?_)
    ·
     refine Mach.ok_ite (fun g4 => ?_) (fun g4 => ?_)
     ·
      refine Mach.ok_ite (fun g5 => ?_) (fun g5 => ?_)
      ·
       exact Mach.ok_next (M := Zx L0 N) (cd := 1000000) (cm := 0) (y := (.h1m1 (((v1.take (v3 - 0)) ++ ([(⟨(L0.getD v2 R_iiiiiiAi.z).a0, (L0.getD v2 R_iiiiiiAi.z).a1, (L0.getD v2 R_iiiiiiAi.z).a2, (L0.getD v2 R_iiiiiiAi.z).a3, (L0.getD v2 R_iiiiiiAi.z).a4, (L0.getD v2 R_iiiiiiAi.z).a5, (L0.getD v2 R_iiiiiiAi.z).a6, (L0.getD v2 R_iiiiiiAi.z).a7⟩ : R_iiiiiiAi)] : List R_iiiiiiAi))) ((v2 + 1)) : Zk)) (fu := 4000) (orc := (Zm [(0, false)] [(0, (((v2 + 1) : Nat) : Int))] [(0, v2)] [(0, [.i (L0.getD v2 R_iiiiiiAi.z).a0, .i (L0.getD v2 R_iiiiiiAi.z).a1, .i (L0.getD v2 R_iiiiiiAi.z).a2, .i (L0.getD v2 R_iiiiiiAi.z).a3, .i (L0.getD v2 R_iiiiiiAi.z).a4, .i (L0.getD v2 R_iiiiiiAi.z).a5, (mc E_ii (L0.getD v2 R_iiiiiiAi.z).a6), .i (L0.getD v2 R_iiiiiiAi.z).a7])] [(0, .sl 0 v3), (1, .ap (v3 - 0) (Zb E_iiiiiiAi (v1.take (v3 - 0))) (Zb E_iiiiiiAi (v1.take (v3 - 0)))), (2, .ap 1 [vi (L0.getD v2 R_iiiiiiAi.z).a0, vi (L0.getD v2 R_iiiiiiAi.z).a1, vi (L0.getD v2 R_iiiiiiAi.z).a2, vi (L0.getD v2 R_iiiiiiAi.z).a3, vi (L0.getD v2 R_iiiiiiAi.z).a4, vi (L0.getD v2 R_iiiiiiAi.z).a5, ms E_ii (L0.getD v2 R_iiiiiiAi.z).a6, vi (L0.getD v2 R_iiiiiiAi.z).a7] (Zb E_iiiiiiAi ((v1.take (v3 - 0)) ++ ([(⟨(L0.getD v2 R_iiiiiiAi.z).a0, (L0.getD v2 R_iiiiiiAi.z).a1, (L0.getD v2 R_iiiiiiAi.z).a2, (L0.getD v2 R_iiiiiiAi.z).a3, (L0.getD v2 R_iiiiiiAi.z).a4, (L0.getD v2 R_iiiiiiAi.z).a5, (L0.getD v2 R_iiiiiiAi.z).a6, (L0.getD v2 R_iiiiiiAi.z).a7⟩ : R_iiiiiiAi)] : List R_iiiiiiAi)))), (3, .sl v3 v1.length), (4, .ap0)])) (live := [0, 4]) (tv := fun _ => [some (vs 0 0 L0.length L0.length), some (vs 4 0 ((v3 - 0) + 1) ((v3 - 0) + 1)), some (vi (((v2 + 1) : Nat) : Int))]) (bl := [some (.cells (Zb E_iiiiiiAi L0) 27), some (.cells (Zb E_iiiiiiAi ((v1.take (v3 - 0)) ++ ([(⟨(L0.getD v2 R_iiiiiiAi.z).a0, (L0.getD v2 R_iiiiiiAi.z).a1, (L0.getD v2 R_iiiiiiAi.z).a2, (L0.getD v2 R_iiiiiiAi.z).a3, (L0.getD v2 R_iiiiiiAi.z).a4, (L0.getD v2 R_iiiiiiAi.z).a5, (L0.getD v2 R_iiiiiiAi.z).a6, (L0.getD v2 R_iiiiiiAi.z).a7⟩ : R_iiiiiiAi)] : List R_iiiiiiAi))) 27)]) (ob := [((IntKind.i64.wrap ((v2 : Int) + (1 : Int))) == (((v2 + 1) : Nat) : Int), true), (dP (0 = (v1.length - v3) ∧ Zl ((v1.length - v3) * 8) (List.drop (0 + (v3 * 8)) (Zb E_iiiiiiAi v1)) = some [] ∧ Zn Za5 [] = true), true), (dP (v3 ≤ v1.length ∧ v1.length ≤ v1.length), true), (dS v1.length, true), ((v3 : Int) == Int.ofNat v3, true), (dP ((1 = 1 ∧ Zl (1 * 8) (List.drop 0 [vi (L0.getD v2 R_iiiiiiAi.z).a0, vi (L0.getD v2 R_iiiiiiAi.z).a1, vi (L0.getD v2 R_iiiiiiAi.z).a2, vi (L0.getD v2 R_iiiiiiAi.z).a3, vi (L0.getD v2 R_iiiiiiAi.z).a4, vi (L0.getD v2 R_iiiiiiAi.z).a5, ms E_ii (L0.getD v2 R_iiiiiiAi.z).a6, vi (L0.getD v2 R_iiiiiiAi.z).a7]) = some [vi (L0.getD v2 R_iiiiiiAi.z).a0, vi (L0.getD v2 R_iiiiiiAi.z).a1, vi (L0.getD v2 R_iiiiiiAi.z).a2, vi (L0.getD v2 R_iiiiiiAi.z).a3, vi (L0.getD v2 R_iiiiiiAi.z).a4, vi (L0.getD v2 R_iiiiiiAi.z).a5, ms E_ii (L0.getD v2 R_iiiiiiAi.z).a6, vi (L0.getD v2 R_iiiiiiAi.z).a7] ∧ Zn Za5 [vi (L0.getD v2 R_iiiiiiAi.z).a0, vi (L0.getD v2 R_iiiiiiAi.z).a1, vi (L0.getD v2 R_iiiiiiAi.z).a2, vi (L0.getD v2 R_iiiiiiAi.z).a3, vi (L0.getD v2 R_iiiiiiAi.z).a4, vi (L0.getD v2 R_iiiiiiAi.z).a5, ms E_ii (L0.getD v2 R_iiiiiiAi.z).a6, vi (L0.getD v2 R_iiiiiiAi.z).a7] = true) ∧ 0 < 1 ∧ 1 ≤ 100000 ∧ (v3 - 0) < (v3 - 0) + 1 ∧ (v3 - 0) ≤ 100000 ∧ (v3 - 0) * 8 ≤ (List.length (Zb E_iiiiiiAi (v1.take (v3 - 0)))) ∧ List.take ((v3 - 0) * 8) (Zb E_iiiiiiAi (v1.take (v3 - 0))) ++ [vi (L0.getD v2 R_iiiiiiAi.z).a0, vi (L0.getD v2 R_iiiiiiAi.z).a1, vi (L0.getD v2 R_iiiiiiAi.z).a2, vi (L0.getD v2 R_iiiiiiAi.z).a3, vi (L0.getD v2 R_iiiiiiAi.z).a4, vi (L0.getD v2 R_iiiiiiAi.z).a5, ms E_ii (L0.getD v2 R_iiiiiiAi.z).a6, vi (L0.getD v2 R_iiiiiiAi.z).a7] = (Zb E_iiiiiiAi ((v1.take (v3 - 0)) ++ ([(⟨(L0.getD v2 R_iiiiiiAi.z).a0, (L0.getD v2 R_iiiiiiAi.z).a1, (L0.getD v2 R_iiiiiiAi.z).a2, (L0.getD v2 R_iiiiiiAi.z).a3, (L0.getD v2 R_iiiiiiAi.z).a4, (L0.getD v2 R_iiiiiiAi.z).a5, (L0.getD v2 R_iiiiiiAi.z).a6, (L0.getD v2 R_iiiiiiAi.z).a7⟩ : R_iiiiiiAi)] : List R_iiiiiiAi)))), true), (Z1 (Zl 8 (List.drop (0 + (v2 * 8)) (Zb E_iiiiiiAi L0))) [.i (L0.getD v2 R_iiiiiiAi.z).a0, .i (L0.getD v2 R_iiiiiiAi.z).a1, .i (L0.getD v2 R_iiiiiiAi.z).a2, .i (L0.getD v2 R_iiiiiiAi.z).a3, .i (L0.getD v2 R_iiiiiiAi.z).a4, .i (L0.getD v2 R_iiiiiiAi.z).a5, (mc E_ii (L0.getD v2 R_iiiiiiAi.z).a6), .i (L0.getD v2 R_iiiiiiAi.z).a7], true), (Nat.blt v2 L0.length, true), ((v2 : Int) == Int.ofNat v2, true), (dP (((v3 - 0) = (v3 - 0) ∧ Zl ((v3 - 0) * 8) (List.drop (0 + (0 * 8)) (Zb E_iiiiiiAi v1)) = some (Zb E_iiiiiiAi (v1.take (v3 - 0))) ∧ Zn Za5 (Zb E_iiiiiiAi (v1.take (v3 - 0))) = true) ∧ 0 < (v3 - 0) ∧ (v3 - 0) ≤ 100000 ∧ (Zb E_iiiiiiAi (v1.take (v3 - 0))) = (Zb E_iiiiiiAi (v1.take (v3 - 0)))), true), (dP (0 ≤ v3 ∧ v3 ≤ v1.length), true), ((v3 : Int) == Int.ofNat v3, true), (dS 0, true), ((decide ((v3 : Int) < (v1.length : Int))), false)]) rfl (show 1 ∈ Zv (ZbD 2) from by decide +kernel) (fun gv => by kernel_rfl) (Za (beq_iff_eq.2 ((wrap_i64 ltA).trans (by first | rfl | omega))) <| Za (Ze ⟨by omega, by rw [show (v1.length - v3) = 0 by omega]; rfl, rfl⟩) <| Za (Ze ⟨ltA, ltA⟩) <| oR <| oI <| Za (Ze ⟨⟨rfl, ⟨rfl, rfl⟩⟩, by omega, by omega, ltA, by omega, (Zf2 (E := E_iiiiiiAi) (L := (v1.take (v3 - 0))) (M := ([(⟨(L0.getD v2 R_iiiiiiAi.z).a0, (L0.getD v2 R_iiiiiiAi.z).a1, (L0.getD v2 R_iiiiiiAi.z).a2, (L0.getD v2 R_iiiiiiAi.z).a3, (L0.getD v2 R_iiiiiiAi.z).a4, (L0.getD v2 R_iiiiiiAi.z).a5, (L0.getD v2 R_iiiiiiAi.z).a6, (L0.getD v2 R_iiiiiiAi.z).a7⟩ : R_iiiiiiAi)] : List R_iiiiiiAi)) (n := (v3 - 0)) (show _ = _ * 8 from rfl) ltA (R := ((v1.take (v3 - 0)) ++ ([(⟨(L0.getD v2 R_iiiiiiAi.z).a0, (L0.getD v2 R_iiiiiiAi.z).a1, (L0.getD v2 R_iiiiiiAi.z).a2, (L0.getD v2 R_iiiiiiAi.z).a3, (L0.getD v2 R_iiiiiiAi.z).a4, (L0.getD v2 R_iiiiiiAi.z).a5, (L0.getD v2 R_iiiiiiAi.z).a6, (L0.getD v2 R_iiiiiiAi.z).a7⟩ : R_iiiiiiAi)] : List R_iiiiiiAi))) (by rw [List.take_of_length_le ltA]))⟩) <| Za (Zo (E := E_iiiiiiAi) (L := L0) (i := v2) (q := 0) (by omega) (show (0 + (v2 * 8)) = v2 * 8 + 0 from by omega) (show 0 + 8 ≤ 8 from by decide) rfl rfl) <| oB <| oI <| Za (Ze ⟨⟨rfl, (ZjI (E := E_iiiiiiAi) (L := v1) (a := 0) (n := (v3 - 0)) (by omega) (by show _ = _ * 8; omega) (show _ = _ * 8 from rfl) (by rw [List.drop_zero]))⟩, by omega, by omega, rfl⟩) <| Za (Ze ⟨ltA, ltA⟩) <| oI <| oR <| oN Zf) rfl (by decide) (by rfl) (fun _ => ⟨rr, ⟨⟨Eq.trans (show (vs 1 0 ((v1.take (v3 - 0)) ++ ([(⟨(L0.getD v2 R_iiiiiiAi.z).a0, (L0.getD v2 R_iiiiiiAi.z).a1, (L0.getD v2 R_iiiiiiAi.z).a2, (L0.getD v2 R_iiiiiiAi.z).a3, (L0.getD v2 R_iiiiiiAi.z).a4, (L0.getD v2 R_iiiiiiAi.z).a5, (L0.getD v2 R_iiiiiiAi.z).a6, (L0.getD v2 R_iiiiiiAi.z).a7⟩ : R_iiiiiiAi)] : List R_iiiiiiAi)).length ((v1.take (v3 - 0)) ++ ([(⟨(L0.getD v2 R_iiiiiiAi.z).a0, (L0.getD v2 R_iiiiiiAi.z).a1, (L0.getD v2 R_iiiiiiAi.z).a2, (L0.getD v2 R_iiiiiiAi.z).a3, (L0.getD v2 R_iiiiiiAi.z).a4, (L0.getD v2 R_iiiiiiAi.z).a5, (L0.getD v2 R_iiiiiiAi.z).a6, (L0.getD v2 R_iiiiiiAi.z).a7⟩ : R_iiiiiiAi)] : List R_iiiiiiAi)).length : Value) = vs 1 0 ((v3 - 0) + 1) ((v3 - 0) + 1) from (Zdp rfl eqA eqA)) (by rfl), by rfl⟩, ⟨rr, trivial⟩⟩⟩) ⟨(Zi (E := E_iiiiiiAi) (α := R_iiiiiiAi) _ L0 _), ⟨(Zi (E := E_iiiiiiAi) (α := R_iiiiiiAi) _ ((v1.take (v3 - 0)) ++ ([(⟨(L0.getD v2 R_iiiiiiAi.z).a0, (L0.getD v2 R_iiiiiiAi.z).a1, (L0.getD v2 R_iiiiiiAi.z).a2, (L0.getD v2 R_iiiiiiAi.z).a3, (L0.getD v2 R_iiiiiiAi.z).a4, (L0.getD v2 R_iiiiiiAi.z).a5, (L0.getD v2 R_iiiiiiAi.z).a6, (L0.getD v2 R_iiiiiiAi.z).a7⟩ : R_iiiiiiAi)] : List R_iiiiiiAi)) _), trivial⟩⟩
      ·
       exact Mach.ok_none
     ·
      exact Mach.ok_none
    ·
     exact Mach.ok_none
  ·
   exact Mach.ok_none

theorem Zl1 (L0 : List R_iiiiiiAi) (N : Nat) : (Zx L0 N).Enter Tryz.prog Zp #[vs 0 0 L0.length L0.length] (Zf4 L0 N) := by
 unfold Zf4
 exact Mach.en_head (bK := Zat 1) (M := Zx L0 N) (cd := 1000000) (cm := 0) (y := (.h1m0 : Zk)) (fu := 4000) (orc := (Zm [] [] [] [] [])) (live := [0]) (tv := [some (vs 0 0 L0.length L0.length), some (vn), some (vq)]) (bl := [some (.cells (Zb E_iiiiiiAi L0) 27)]) (ob := []) rfl rfl (show Zv (Zat 1).2 = [] from rfl) (by kernel_rfl) Zf rfl (by decide) (by rfl) ⟨rr, ⟨rr, ⟨rr, trivial⟩⟩⟩ ⟨(Zi (E := E_iiiiiiAi) (α := R_iiiiiiAi) _ L0 _), trivial⟩

theorem ZfZ (L0 : List R_iiiiiiAi) (N : Nat) (r : Z9) (h : Zb1 L0 N = some r) : LSpec Tryz.prog 7 #[vs 0 0 L0.length L0.length] [.cells (Zb E_iiiiiiAi L0) 27] (Zi7 L0 r) (ZhN L0 r) :=
 Mach.spec ZbX (Zx L0 N) Tryz.func7 (by kernel_rfl) (by kernel_rfl) (fun x => by cases x <;> exact Zad _ rfl) (fun r => by cases r <;> exact Zad _ rfl) (fun x => by
  cases x with
  | h1m0 => exact fun _ => (show ¬ (1 ∈ Zv (Zat 1).2) from by decide +kernel)
  | h1m1 _ _ => exact fun _ => (show ¬ (1 ∈ Zv (Zat 1).2) from by decide +kernel)
  | h2m0 => exact fun _ => (show ¬ (2 ∈ Zv (Zat 2).2) from by decide +kernel)
  | h2m1 _ _ _ => exact fun _ => (show ¬ (2 ∈ Zv (Zat 2).2) from by decide +kernel)
  ) (fun x => (show (Zx L0 N).Ok Tryz.prog Zp x (Zt L0 N x) from by
  cases x with
  | h1m0 => exact Zju L0 N
  | h1m1 v1 v2 => exact Zjv L0 v1 v2 N
  | h2m0 => exact Zjw L0 N
  | h2m1 v1 v2 v3 => exact Zjx L0 v1 v2 v3 N
  )) (Zl1 L0 N) (n := N) h

noncomputable def ZaC (L0 : List R_iiiiiiAi) (w1 : Int) (k0 n : Nat) : Zbh := .call [(k0, .cells (Zb E_iiiiiiAi L0) 27)] (Value.tuple #[vn, vi w1]) [] 0
def Zau (A : Array Value) (L0 : List R_iiiiiiAi) (w1 : Int) (k0 n : Nat) : Prop := Z3 Tryz.prog 7 A [(k0, .cells (Zb E_iiiiiiAi L0) 27)] (Value.tuple #[vn, vi w1]) [] n 0

theorem ZaD (A : Array Value) (L0 : List R_iiiiiiAi) (w1 : Int) (N : Nat) (h : Zb1 L0 N = some (.r0 w1)) (k0 n : Nat) (hA : A = #[vs k0 0 L0.length L0.length]) (hnd : ([k0] : List Nat).Nodup) (hlt : ∀ k ∈ ([k0] : List Nat), k < n) : Zau A L0 w1 k0 n :=
 Zal hA (LSpec.callL (show LSpec Tryz.prog 7 #[vs 0 0 L0.length L0.length] [.cells (Zb E_iiiiiiAi L0) 27] (Value.tuple #[vn, vi w1]) [some (.cells (Zb E_iiiiiiAi L0) 27)] from ZfZ L0 N _ h) [k0] n [] rfl hnd hlt (show 1 ≤ 1 from by decide) (show ∀ j ∈ ([] : List Nat), j < 1 from by decide) (by rfl) ⟨(Zy _ _ _), trivial⟩ (by rfl) ⟨(Zy _ _ _), trivial⟩ ⟨.inr rfl, trivial⟩ rfl rfl rfl (ZaS (ZaT rfl (Za9 _ _ _)) rfl) rfl)

noncomputable def Zbs (L0 w1 : List R_iiiiiiAi) (k0 n : Nat) : Zbh := .call [(k0, .cells (Zb E_iiiiiiAi L0) 27)] (Value.tuple #[vs n 0 w1.length w1.length, vq]) [(n, some (.cells (Zb E_iiiiiiAi w1) 27))] 1
def Zbb (A : Array Value) (L0 w1 : List R_iiiiiiAi) (k0 n : Nat) : Prop := Z3 Tryz.prog 7 A [(k0, .cells (Zb E_iiiiiiAi L0) 27)] (Value.tuple #[vs n 0 w1.length w1.length, vq]) [(n, some (.cells (Zb E_iiiiiiAi w1) 27))] n 1

theorem Zbt (A : Array Value) (L0 w1 : List R_iiiiiiAi) (N : Nat) (h : Zb1 L0 N = some (.r1 w1)) (k0 n : Nat) (hA : A = #[vs k0 0 L0.length L0.length]) (hnd : ([k0] : List Nat).Nodup) (hlt : ∀ k ∈ ([k0] : List Nat), k < n) : Zbb A L0 w1 k0 n :=
 Zal hA (LSpec.callL (show LSpec Tryz.prog 7 #[vs 0 0 L0.length L0.length] [.cells (Zb E_iiiiiiAi L0) 27] (Value.tuple #[vs 1 0 w1.length w1.length, vq]) [some (.cells (Zb E_iiiiiiAi L0) 27), some (.cells (Zb E_iiiiiiAi w1) 27)] from ZfZ L0 N _ h) [k0] n [1] rfl hnd hlt (show 1 ≤ 2 from by decide) (show ∀ j ∈ ([1] : List Nat), j < 2 from by decide) (by rfl) ⟨(Zy _ _ _), trivial⟩ (by rfl) ⟨(Zy _ _ _), ⟨(Zy _ _ _), trivial⟩⟩ ⟨.inr rfl, ⟨(by decide), trivial⟩⟩ rfl rfl rfl (ZaS (ZaT rfl (Za9 _ _ _)) rfl) (ZaS (ZaT rfl (ZhF (Za9 _ _ _))) rfl))

noncomputable def ZgT  : Za0 → Value
 | .r0 => vT
noncomputable def Zga  : Za0 → List (Option AObj)
 | .r0 => []

def ZjP : ZQ → Nat
 | .h1m0 => 1
noncomputable def ZkB  : ZQ → List (Nat × Value)
 | .h1m0 => [(0, vn), (1, vn), (5, vq)]
noncomputable def ZkC  : ZQ → List (Option AObj)
 | .h1m0 => []

noncomputable def Zd0 : Nat → Code × List Zap
 | 1 => ZaU [1, 1, 0, 1, 3] (ZbW Tryz.f8) []
 | _ => (.skip, [])
def ZjQ : Nat → Bool
 | 1 => true
 | _ => true
noncomputable def Zbn  (N : Nat) : Mach := ⟨Tryz.f8, [], ZQ, Za0, Zbg  N, ZjP, Zd0, ZjQ, ZkB , ZkC , ZgT , Zga ⟩

theorem ZhP  (N : Nat) : (Zbn  N).Ok Tryz.prog Zp (.h1m0 : ZQ) (Zbg  N (.h1m0 : ZQ)) := by
 show (Zbn  N).Ok Tryz.prog Zp (.h1m0 : ZQ) (Zdr  N)
 unfold Zdr
 exact Mach.ok_fin (M := Zbn  N) (cd := 1000000) (cm := 0) (r := (.r0 : Za0)) (fu := 4000) (orc := (Zm [] [] [] [] [])) (live := []) (u := vT) (bl := []) (ob := []) (fun gv => by kernel_rfl) Zf rfl (by decide) (by rfl) rr trivial

theorem Zjy  (N : Nat) : (Zbn  N).Enter Tryz.prog Zp #[vn, vn] (Zen  N) := by
 unfold Zen
 exact Mach.en_head (bK := Zd0 1) (M := Zbn  N) (cd := 1000000) (cm := 0) (y := (.h1m0 : ZQ)) (fu := 4000) (orc := (Zm [] [] [] [] [])) (live := []) (tv := [some (vn), some (vn), some (vq)]) (bl := []) (ob := []) rfl rfl (show Zv (Zd0 1).2 = [] from rfl) (by kernel_rfl) Zf rfl (by decide) (by rfl) ⟨rr, ⟨rr, ⟨rr, trivial⟩⟩⟩ trivial

theorem Zis  (N : Nat) (r : Za0) (h : ZdH  N = some r) : LSpec Tryz.prog 8 #[vn, vn] [] (ZgT  r) (Zga  r) :=
 Mach.spec ZbX (Zbn  N) Tryz.func8 (by kernel_rfl) (by kernel_rfl) (fun x => by cases x <;> exact Zad _ rfl) (fun r => by cases r <;> exact Zad _ rfl) (fun x => by
  cases x with
  | h1m0 => exact fun _ => (show ¬ (1 ∈ Zv (Zd0 1).2) from by decide +kernel)
  ) (fun x => (show (Zbn  N).Ok Tryz.prog Zp x (Zbg  N x) from by
  cases x with
  | h1m0 => exact ZhP  N
  )) (Zjy  N) (n := N) h

noncomputable def Zeu  (n : Nat) : Zbh := .call [] (vT) [] 0
def ZcL (A : Array Value)  (n : Nat) : Prop := Z3 Tryz.prog 8 A [] (vT) [] n 0

theorem Zev (A : Array Value)  (N : Nat) (h : ZdH  N = some (.r0)) (n : Nat) (hA : A = #[vn, vn]) (hnd : ([] : List Nat).Nodup) (hlt : ∀ k ∈ ([] : List Nat), k < n) : ZcL A   n :=
 Zal hA (LSpec.callL (show LSpec Tryz.prog 8 #[vn, vn] [] (vT) [] from Zis  N _ h) [] n [] rfl hnd hlt (show 0 ≤ 0 from by decide) (show ∀ j ∈ ([] : List Nat), j < 0 from by decide) (by rfl) trivial (by rfl) trivial trivial rfl rfl rfl rfl rfl)

noncomputable def ZgU (L0 : List R_iiiiiiAi) : ZZ → Value
 | .r0 w1 => Value.bool w1
noncomputable def Zgb (L0 : List R_iiiiiiAi) : ZZ → List (Option AObj)
 | .r0 w1 => [some (.cells (Zb E_iiiiiiAi L0) 27)]

def ZjR : ZR → Nat
 | .h1m0 => 1
noncomputable def ZkD (L0 : List R_iiiiiiAi) : ZR → List (Nat × Value)
 | .h1m0 => [(0, vn), (1, vs 0 0 L0.length L0.length), (5, vq)]
noncomputable def ZkE (L0 : List R_iiiiiiAi) : ZR → List (Option AObj)
 | .h1m0 => [some (.cells (Zb E_iiiiiiAi L0) 27)]

noncomputable def Zd1 : Nat → Code × List Zap
 | 1 => ZaU [1, 1, 0, 1, 3] (ZbW Tryz.f8) []
 | _ => (.skip, [])
def ZjS : Nat → Bool
 | 1 => true
 | _ => true
noncomputable def ZaV (L0 : List R_iiiiiiAi) (N : Nat) : Mach := ⟨Tryz.f8, [.cells (Zb E_iiiiiiAi L0) 27], ZR, ZZ, Zcx L0 N, ZjR, Zd1, ZjS, ZkD L0, ZkE L0, ZgU L0, Zgb L0⟩

theorem ZhQ (L0 : List R_iiiiiiAi) (N : Nat) : (ZaV L0 N).Ok Tryz.prog Zp (.h1m0 : ZR) (Zcx L0 N (.h1m0 : ZR)) := by
 show (ZaV L0 N).Ok Tryz.prog Zp (.h1m0 : ZR) (Zds L0 N)
 unfold Zds
 exact Mach.ok_fin (M := ZaV L0 N) (cd := 1000000) (cm := 0) (r := (.r0 (true) : ZZ)) (fu := 4000) (orc := (Zm [] [] [] [] [])) (live := [0]) (u := vT) (bl := [some (.cells (Zb E_iiiiiiAi L0) 27)]) (ob := []) (fun gv => by kernel_rfl) Zf rfl (by decide) (by rfl) rr ⟨(Zi (E := E_iiiiiiAi) (α := R_iiiiiiAi) _ L0 _), trivial⟩

theorem Zjz (L0 : List R_iiiiiiAi) (N : Nat) : (ZaV L0 N).Enter Tryz.prog Zp #[vn, vs 0 0 L0.length L0.length] (Zeo L0 N) := by
 unfold Zeo
 refine Mach.en_ite (fun g0 => ?_) (fun g0 => ?_)
 ·
  exact Mach.en_fin (M := ZaV L0 N) (cd := 1000000) (cm := 0) (r := (.r0 (false) : ZZ)) (fu := 4000) (orc := (Zm [(0, true)] [] [] [] [])) (live := [0]) (u := vf) (bl := [some (.cells (Zb E_iiiiiiAi L0) 27)]) (ob := [(((0 : Int) != (L0.length : Int)), true)]) (by kernel_rfl) (oD Zf) rfl (by decide) (by rfl) rr ⟨(Zi (E := E_iiiiiiAi) (α := R_iiiiiiAi) _ L0 _), trivial⟩
 ·
  exact Mach.en_head (bK := Zd1 1) (M := ZaV L0 N) (cd := 1000000) (cm := 0) (y := (.h1m0 : ZR)) (fu := 4000) (orc := (Zm [(0, false)] [] [] [] [])) (live := [0]) (tv := [some (vn), some (vs 0 0 L0.length L0.length), some (vq)]) (bl := [some (.cells (Zb E_iiiiiiAi L0) 27)]) (ob := [(((0 : Int) != (L0.length : Int)), false)]) rfl rfl (show Zv (Zd1 1).2 = [] from rfl) (by kernel_rfl) (oE Zf) rfl (by decide) (by rfl) ⟨rr, ⟨rr, ⟨rr, trivial⟩⟩⟩ ⟨(Zi (E := E_iiiiiiAi) (α := R_iiiiiiAi) _ L0 _), trivial⟩

theorem Zit (L0 : List R_iiiiiiAi) (N : Nat) (r : ZZ) (h : Zfl L0 N = some r) : LSpec Tryz.prog 8 #[vn, vs 0 0 L0.length L0.length] [.cells (Zb E_iiiiiiAi L0) 27] (ZgU L0 r) (Zgb L0 r) :=
 Mach.spec ZbX (ZaV L0 N) Tryz.func8 (by kernel_rfl) (by kernel_rfl) (fun x => by cases x <;> exact Zad _ rfl) (fun r => by cases r <;> exact Zad _ rfl) (fun x => by
  cases x with
  | h1m0 => exact fun _ => (show ¬ (1 ∈ Zv (Zd1 1).2) from by decide +kernel)
  ) (fun x => (show (ZaV L0 N).Ok Tryz.prog Zp x (Zcx L0 N x) from by
  cases x with
  | h1m0 => exact ZhQ L0 N
  )) (Zjz L0 N) (n := N) h

noncomputable def Zgc (L0 : List R_iiiiiiAi) (w1 : Bool) (k0 n : Nat) : Zbh := .call [(k0, .cells (Zb E_iiiiiiAi L0) 27)] (Value.bool w1) [] 0
def Zew (A : Array Value) (L0 : List R_iiiiiiAi) (w1 : Bool) (k0 n : Nat) : Prop := Z3 Tryz.prog 8 A [(k0, .cells (Zb E_iiiiiiAi L0) 27)] (Value.bool w1) [] n 0

theorem Zgd (A : Array Value) (L0 : List R_iiiiiiAi) (w1 : Bool) (N : Nat) (h : Zfl L0 N = some (.r0 w1)) (k0 n : Nat) (hA : A = #[vn, vs k0 0 L0.length L0.length]) (hnd : ([k0] : List Nat).Nodup) (hlt : ∀ k ∈ ([k0] : List Nat), k < n) : Zew A L0 w1 k0 n :=
 Zal hA (LSpec.callL (show LSpec Tryz.prog 8 #[vn, vs 0 0 L0.length L0.length] [.cells (Zb E_iiiiiiAi L0) 27] (Value.bool w1) [some (.cells (Zb E_iiiiiiAi L0) 27)] from Zit L0 N _ h) [k0] n [] rfl hnd hlt (show 1 ≤ 1 from by decide) (show ∀ j ∈ ([] : List Nat), j < 1 from by decide) (by rfl) ⟨(Zy _ _ _), trivial⟩ (by rfl) ⟨(Zy _ _ _), trivial⟩ ⟨.inr rfl, trivial⟩ rfl rfl rfl (ZaS (ZaT rfl (Za9 _ _ _)) rfl) rfl)

noncomputable def Zkk (L0 L1 : List R_ii) : ZaF → Value
 | .r0 w0 => Value.bool w0
noncomputable def Zj0 (L0 L1 : List R_ii) : ZaF → List (Option AObj)
 | .r0 w0 => []

def ZnI : Za1 → Nat
 | .h1m0 v2 => 1
noncomputable def Zou (L0 L1 : List R_ii) : Za1 → List (Nat × Value)
 | .h1m0 v2 => [(0, ms E_ii L0), (1, ms E_ii L1), (5, vi (v2 : Int))]
noncomputable def Zov (L0 L1 : List R_ii) : Za1 → List (Option AObj)
 | .h1m0 v2 => []

noncomputable def ZdA : Nat → Code × List Zap
 | 1 => ZaU [1, 1, 0, 1, 3] (ZbW Tryz.f28) []
 | _ => (.skip, [])
def Zj1 : Nat → Bool
 | 1 => true
 | _ => true
noncomputable def Zow (i : Nat) : List Zap := match Zj1 i with | true => .rnd i :: (ZdA i).2 | false => (ZdA i).2

noncomputable def Zbx (L0 L1 : List R_ii) (N : Nat) : Mach := ⟨Tryz.f28, [], Za1, ZaF, ZcZ L0 L1 N, ZnI, ZdA, Zj1, Zou L0 L1, Zov L0 L1, Zkk L0 L1, Zj0 L0 L1⟩

theorem ZkF (L0 L1 : List R_ii) (v2 N : Nat) : (Zbx L0 L1 N).Ok Tryz.prog Zp (.h1m0 v2 : Za1) (ZcZ L0 L1 N (.h1m0 v2 : Za1)) := by
 show (Zbx L0 L1 N).Ok Tryz.prog Zp (.h1m0 v2 : Za1) (Zb2 L0 L1 N v2)
 unfold Zb2
 refine Mach.ok_ite (fun g0 => ?_) (fun g0 => ?_)
 ·
  refine Mach.ok_ite (fun g1 => ?_) (fun g1 => ?_)
  ·
   refine Mach.ok_ite (fun g2 => ?_) (fun g2 => ?_)
   ·
    exact Mach.ok_fin (M := Zbx L0 L1 N) (cd := 1000000) (cm := 0) (r := (.r0 (false) : ZaF)) (fu := 4000) (orc := (Zm [(0, true), (1, true)] [] [(0, v2), (1, v2)] [(0, [.i (L0.getD v2 R_ii.z).a0, .i (L0.getD v2 R_ii.z).a1]), (1, [.i (L1.getD v2 R_ii.z).a0, .i (L1.getD v2 R_ii.z).a1])] [])) (live := []) (u := vf) (bl := []) (ob := [((!(((L0.getD v2 R_ii.z).a0 == (L1.getD v2 R_ii.z).a0) && (((L0.getD v2 R_ii.z).a1 == (L1.getD v2 R_ii.z).a1) && true))), true), (dP (Zao (code (ZU E_ii L1)) (0 + (v2 * 2)) 2 = some [.i (L1.getD v2 R_ii.z).a0, .i (L1.getD v2 R_ii.z).a1]), true), (Nat.blt v2 L1.length, true), ((v2 : Int) == Int.ofNat v2, true), (dP (Zao (code (ZU E_ii L0)) (0 + (v2 * 2)) 2 = some [.i (L0.getD v2 R_ii.z).a0, .i (L0.getD v2 R_ii.z).a1]), true), (Nat.blt v2 L0.length, true), ((v2 : Int) == Int.ofNat v2, true), ((decide ((v2 : Int) < (L0.length : Int))), true)]) (fun gv => by kernel_rfl) (Za (by rw [Bool.not_eq_true']; exact Bool.eq_false_iff.2 (by simp only [ne_eq, Bool.and_true, Bool.and_eq_true, beq_iff_eq]; first | omega | (intro hh; simp_all; done) | (intro hh; grind))) <| Za (Ze (ZcE (E := E_ii) (L := L1) (i := v2) (q := 0) (by omega) (show (0 + (v2 * 2)) = v2 * 2 + 0 from by omega) (show 0 + 2 ≤ 2 from by decide) rfl)) <| oB <| oI <| Za (Ze (ZcE (E := E_ii) (L := L0) (i := v2) (q := 0) (by omega) (show (0 + (v2 * 2)) = v2 * 2 + 0 from by omega) (show 0 + 2 ≤ 2 from by decide) rfl)) <| oB <| oI <| oY Zf) rfl (by decide) (by rfl) rr trivial
   ·
    refine Mach.ok_ite (fun g3 => ?_) (fun g3 => ?_)
    ·
     exact Mach.ok_next (M := Zbx L0 L1 N) (cd := 1000000) (cm := 0) (y := (.h1m0 ((v2 + 1)) : Za1)) (fu := 4000) (orc := (Zm [(0, true), (1, false)] [(0, (((v2 + 1) : Nat) : Int))] [(0, v2), (1, v2)] [(0, [.i (L0.getD v2 R_ii.z).a0, .i (L0.getD v2 R_ii.z).a1]), (1, [.i (L1.getD v2 R_ii.z).a0, .i (L1.getD v2 R_ii.z).a1])] [])) (live := []) (tv := fun _ => [some (ms E_ii L0), some (ms E_ii L1), some (vi (((v2 + 1) : Nat) : Int))]) (bl := []) (ob := [((IntKind.i64.wrap ((v2 : Int) + (1 : Int))) == (((v2 + 1) : Nat) : Int), true), ((!(((L0.getD v2 R_ii.z).a0 == (L1.getD v2 R_ii.z).a0) && (((L0.getD v2 R_ii.z).a1 == (L1.getD v2 R_ii.z).a1) && true))), false), (dP (Zao (code (ZU E_ii L1)) (0 + (v2 * 2)) 2 = some [.i (L1.getD v2 R_ii.z).a0, .i (L1.getD v2 R_ii.z).a1]), true), (Nat.blt v2 L1.length, true), ((v2 : Int) == Int.ofNat v2, true), (dP (Zao (code (ZU E_ii L0)) (0 + (v2 * 2)) 2 = some [.i (L0.getD v2 R_ii.z).a0, .i (L0.getD v2 R_ii.z).a1]), true), (Nat.blt v2 L0.length, true), ((v2 : Int) == Int.ofNat v2, true), ((decide ((v2 : Int) < (L0.length : Int))), true)]) rfl (show 1 ∈ Zv (Zow 1) from by decide +kernel) (fun gv => by kernel_rfl) (Za (beq_iff_eq.2 ((wrap_i64 ltA).trans (by first | rfl | omega))) <| Za (by rw [Bool.not_eq_false']; first | (simp only [beq_self_eq_true, Bool.and_self]; done) | (simp only [Bool.and_true, Bool.and_eq_true, beq_iff_eq] <;> first | omega | (simp_all; done) | grind)) <| Za (Ze (ZcE (E := E_ii) (L := L1) (i := v2) (q := 0) (by omega) (show (0 + (v2 * 2)) = v2 * 2 + 0 from by omega) (show 0 + 2 ≤ 2 from by decide) rfl)) <| oB <| oI <| Za (Ze (ZcE (E := E_ii) (L := L0) (i := v2) (q := 0) (by omega) (show (0 + (v2 * 2)) = v2 * 2 + 0 from by omega) (show 0 + 2 ≤ 2 from by decide) rfl)) <| oB <| oI <| oY Zf) rfl (by decide) (by rfl) (fun _ => ⟨rr, ⟨rr, ⟨rr, trivial⟩⟩⟩) trivial
    ·
     exact Mach.ok_none
  ·
   exact Mach.ok_none
 ·
  exact Mach.ok_fin (M := Zbx L0 L1 N) (cd := 1000000) (cm := 0) (r := (.r0 (true) : ZaF)) (fu := 4000) (orc := (Zm [(0, false)] [] [] [] [])) (live := []) (u := vT) (bl := []) (ob := [((decide ((v2 : Int) < (L0.length : Int))), false)]) (fun gv => by kernel_rfl) (oN Zf) rfl (by decide) (by rfl) rr trivial

theorem Zm6 (L0 L1 : List R_ii) (N : Nat) : (Zbx L0 L1 N).Enter Tryz.prog Zp #[ms E_ii L0, ms E_ii L1] (Zfm L0 L1 N) := by
 unfold Zfm
 refine Mach.en_ite (fun g0 => ?_) (fun g0 => ?_)
 ·
  exact Mach.en_fin (M := Zbx L0 L1 N) (cd := 1000000) (cm := 0) (r := (.r0 (false) : ZaF)) (fu := 4000) (orc := (Zm [(0, true)] [] [] [] [])) (live := []) (u := vf) (bl := []) (ob := [(((L0.length : Int) != (L1.length : Int)), true)]) (by kernel_rfl) (oD Zf) rfl (by decide) (by rfl) rr trivial
 ·
  exact Mach.en_head (bK := ZdA 1) (M := Zbx L0 L1 N) (cd := 1000000) (cm := 0) (y := (.h1m0 (0) : Za1)) (fu := 4000) (orc := (Zm [(0, false)] [] [] [] [])) (live := []) (tv := [some (ms E_ii L0), some (ms E_ii L1), some (vq)]) (bl := []) (ob := [(((L0.length : Int) != (L1.length : Int)), false)]) rfl rfl (show Zv (ZdA 1).2 = [] from rfl) (by kernel_rfl) (oE Zf) rfl (by decide) (by rfl) ⟨rr, ⟨rr, ⟨⟨Eq.trans (show (vi ((0 : Nat) : Int) : Value) = vq from (congrArg (Value.int .i64) (by first | rfl | omega))) (by rfl), by rfl⟩, trivial⟩⟩⟩ trivial

theorem Zl2 (L0 L1 : List R_ii) (N : Nat) (r : ZaF) (h : Zgx L0 L1 N = some r) : LSpec Tryz.prog 28 #[ms E_ii L0, ms E_ii L1] [] (Zkk L0 L1 r) (Zj0 L0 L1 r) :=
 Mach.spec ZbX (Zbx L0 L1 N) Tryz.func28 (by kernel_rfl) (by kernel_rfl) (fun x => by cases x <;> exact Zad _ rfl) (fun r => by cases r <;> exact Zad _ rfl) (fun x => by
  cases x with
  | h1m0 _ => exact fun _ => (show ¬ (1 ∈ Zv (ZdA 1).2) from by decide +kernel)
  ) (fun x => (show (Zbx L0 L1 N).Ok Tryz.prog Zp x (ZcZ L0 L1 N x) from by
  cases x with
  | h1m0 v2 => exact ZkF L0 L1 v2 N
  )) (Zm6 L0 L1 N) (n := N) h

noncomputable def ZnJ (L0 L1 : List R_ii) (w0 : Bool) (n : Nat) : Zbh := .call [] (Value.bool w0) [] 0
def Zj2 (A : Array Value) (L0 L1 : List R_ii) (w0 : Bool) (n : Nat) : Prop := Z3 Tryz.prog 28 A [] (Value.bool w0) [] n 0

theorem ZnK (A : Array Value) (L0 L1 : List R_ii) (w0 : Bool) (N : Nat) (h : Zgx L0 L1 N = some (.r0 w0)) (n : Nat) (hA : A = #[ms E_ii L0, ms E_ii L1]) (hnd : ([] : List Nat).Nodup) (hlt : ∀ k ∈ ([] : List Nat), k < n) : Zj2 A L0 L1 w0  n :=
 Zal hA (LSpec.callL (show LSpec Tryz.prog 28 #[ms E_ii L0, ms E_ii L1] [] (Value.bool w0) [] from Zl2 L0 L1 N _ h) [] n [] rfl hnd hlt (show 0 ≤ 0 from by decide) (show ∀ j ∈ ([] : List Nat), j < 0 from by decide) (by rfl) trivial (by rfl) trivial trivial rfl rfl rfl rfl rfl)

noncomputable def ZgV (a0 a1 a2 a3 a4 a5 : Int) (L6 : List R_ii) (a7 a8 a9 a10 a11 a12 a13 : Int) (L14 : List R_ii) (a15 : Int) : Zw → Value
 | .r0 w0 => Value.bool w0
noncomputable def Zge (a0 a1 a2 a3 a4 a5 : Int) (L6 : List R_ii) (a7 a8 a9 a10 a11 a12 a13 : Int) (L14 : List R_ii) (a15 : Int) : Zw → List (Option AObj)
 | .r0 w0 => []

theorem Zj3 (a0 a1 a2 a3 a4 a5 : Int) (L6 : List R_ii) (a7 a8 a9 a10 a11 a12 a13 : Int) (L14 : List R_ii) (a15 : Int) (N : Nat) : Fx Tryz.prog Zp Tryz.f20 [] #[Value.agg #[vi a0, vi a1, vi a2, vi a3, vi a4, vi a5, ms E_ii L6, vi a7], Value.agg #[vi a8, vi a9, vi a10, vi a11, vi a12, vi a13, ms E_ii L14, vi a15]] (ZgV a0 a1 a2 a3 a4 a5 L6 a7 a8 a9 a10 a11 a12 a13 L14 a15) (Zge a0 a1 a2 a3 a4 a5 L6 a7 a8 a9 a10 a11 a12 a13 L14 a15) (Zbe a0 a1 a2 a3 a4 a5 L6 a7 a8 a9 a10 a11 a12 a13 L14 a15 N) := by
 unfold Zbe
 refine Zcd (fun g0 => ?_) (fun g0 => ?_)
 ·
  refine Zcd (fun g1 => ?_) (fun g1 => ?_)
  ·
   refine Zcd (fun g2 => ?_) (fun g2 => ?_)
   ·
    refine Zcd (fun g3 => ?_) (fun g3 => ?_)
    ·
     refine Zcd (fun g4 => ?_) (fun g4 => ?_)
     ·
      refine Zcd (fun g5 => ?_) (fun g5 => ?_)
      ·
       refine Zcd (fun g6 => ?_) (fun g6 => ?_)
       ·
        refine ZbL (fun z7 c7 => ?_)
        cases z7 with
        | r0 y7_0 =>
         exact Zan (r := (.r0 (y7_0) : Zw)) (fu := 4000) (orc := (Zm [(0, true), (1, true), (2, true), (3, true), (4, true), (5, true), (6, true)] [] [] [] [(0, (ZnJ (L6) (L14)  y7_0  2))])) (live := []) (u := Value.bool y7_0) (bl := []) (ob := [(dP (Zj2 #[ms E_ii L6, ms E_ii L14] (L6) (L14)  y7_0  2), true), ((a7 == a15), true), ((a5 == a13), true), ((a4 == a12), true), ((a3 == a11), true), ((a2 == a10), true), ((a1 == a9), true), ((a0 == a8), true)]) (by kernel_rfl) (Za (Ze (ZnK #[ms E_ii L6, ms E_ii L14] (L6) (L14)  y7_0 N c7  2 rfl (by decide) (by decide))) <| oT <| oT <| oT <| oT <| oT <| oT <| oT Zf) rfl (by decide) (by rfl) rr trivial
       ·
        exact Zan (r := (.r0 (false) : Zw)) (fu := 4000) (orc := (Zm [(0, true), (1, true), (2, true), (3, true), (4, true), (5, true), (6, false)] [] [] [] [])) (live := []) (u := vf) (bl := []) (ob := [((a7 == a15), false), ((a5 == a13), true), ((a4 == a12), true), ((a3 == a11), true), ((a2 == a10), true), ((a1 == a9), true), ((a0 == a8), true)]) (by kernel_rfl) (oF <| oT <| oT <| oT <| oT <| oT <| oT Zf) rfl (by decide) (by rfl) rr trivial
      ·
       exact Zan (r := (.r0 (false) : Zw)) (fu := 4000) (orc := (Zm [(0, true), (1, true), (2, true), (3, true), (4, true), (5, false)] [] [] [] [])) (live := []) (u := vf) (bl := []) (ob := [((a5 == a13), false), ((a4 == a12), true), ((a3 == a11), true), ((a2 == a10), true), ((a1 == a9), true), ((a0 == a8), true)]) (by kernel_rfl) (oF <| oT <| oT <| oT <| oT <| oT Zf) rfl (by decide) (by rfl) rr trivial
     ·
      exact Zan (r := (.r0 (false) : Zw)) (fu := 4000) (orc := (Zm [(0, true), (1, true), (2, true), (3, true), (4, false)] [] [] [] [])) (live := []) (u := vf) (bl := []) (ob := [((a4 == a12), false), ((a3 == a11), true), ((a2 == a10), true), ((a1 == a9), true), ((a0 == a8), true)]) (by kernel_rfl) (oF <| oT <| oT <| oT <| oT Zf) rfl (by decide) (by rfl) rr trivial
    ·
     exact Zan (r := (.r0 (false) : Zw)) (fu := 4000) (orc := (Zm [(0, true), (1, true), (2, true), (3, false)] [] [] [] [])) (live := []) (u := vf) (bl := []) (ob := [((a3 == a11), false), ((a2 == a10), true), ((a1 == a9), true), ((a0 == a8), true)]) (by kernel_rfl) (oF <| oT <| oT <| oT Zf) rfl (by decide) (by rfl) rr trivial
   ·
    exact Zan (r := (.r0 (false) : Zw)) (fu := 4000) (orc := (Zm [(0, true), (1, true), (2, false)] [] [] [] [])) (live := []) (u := vf) (bl := []) (ob := [((a2 == a10), false), ((a1 == a9), true), ((a0 == a8), true)]) (by kernel_rfl) (oF <| oT <| oT Zf) rfl (by decide) (by rfl) rr trivial
  ·
   exact Zan (r := (.r0 (false) : Zw)) (fu := 4000) (orc := (Zm [(0, true), (1, false)] [] [] [] [])) (live := []) (u := vf) (bl := []) (ob := [((a1 == a9), false), ((a0 == a8), true)]) (by kernel_rfl) (oF <| oT Zf) rfl (by decide) (by rfl) rr trivial
 ·
  exact Zan (r := (.r0 (false) : Zw)) (fu := 4000) (orc := (Zm [(0, false)] [] [] [] [])) (live := []) (u := vf) (bl := []) (ob := [((a0 == a8), false)]) (by kernel_rfl) (oF Zf) rfl (by decide) (by rfl) rr trivial

theorem Ziu (a0 a1 a2 a3 a4 a5 : Int) (L6 : List R_ii) (a7 a8 a9 a10 a11 a12 a13 : Int) (L14 : List R_ii) (a15 : Int) (N : Nat) (r : Zw) (h : Zbe a0 a1 a2 a3 a4 a5 L6 a7 a8 a9 a10 a11 a12 a13 L14 a15 N = some r) : LSpec Tryz.prog 20 #[Value.agg #[vi a0, vi a1, vi a2, vi a3, vi a4, vi a5, ms E_ii L6, vi a7], Value.agg #[vi a8, vi a9, vi a10, vi a11, vi a12, vi a13, ms E_ii L14, vi a15]] [] (ZgV a0 a1 a2 a3 a4 a5 L6 a7 a8 a9 a10 a11 a12 a13 L14 a15 r) (Zge a0 a1 a2 a3 a4 a5 L6 a7 a8 a9 a10 a11 a12 a13 L14 a15 r) :=
 ZoC ZbX Tryz.func20 (by kernel_rfl) (by kernel_rfl) (fun r => by cases r <;> exact Zad _ rfl) (Zj3 a0 a1 a2 a3 a4 a5 L6 a7 a8 a9 a10 a11 a12 a13 L14 a15 N) h

noncomputable def ZcM (a0 a1 a2 a3 a4 a5 : Int) (L6 : List R_ii) (a7 a8 a9 a10 a11 a12 a13 : Int) (L14 : List R_ii) (a15 : Int) (w0 : Bool) (n : Nat) : Zbh := .call [] (Value.bool w0) [] 0
def Zcf (A : Array Value) (a0 a1 a2 a3 a4 a5 : Int) (L6 : List R_ii) (a7 a8 a9 a10 a11 a12 a13 : Int) (L14 : List R_ii) (a15 : Int) (w0 : Bool) (n : Nat) : Prop := Z3 Tryz.prog 20 A [] (Value.bool w0) [] n 0

theorem ZcN (A : Array Value) (a0 a1 a2 a3 a4 a5 : Int) (L6 : List R_ii) (a7 a8 a9 a10 a11 a12 a13 : Int) (L14 : List R_ii) (a15 : Int) (w0 : Bool) (N : Nat) (h : Zbe a0 a1 a2 a3 a4 a5 L6 a7 a8 a9 a10 a11 a12 a13 L14 a15 N = some (.r0 w0)) (n : Nat) (hA : A = #[Value.agg #[vi a0, vi a1, vi a2, vi a3, vi a4, vi a5, ms E_ii L6, vi a7], Value.agg #[vi a8, vi a9, vi a10, vi a11, vi a12, vi a13, ms E_ii L14, vi a15]]) (hnd : ([] : List Nat).Nodup) (hlt : ∀ k ∈ ([] : List Nat), k < n) : Zcf A a0 a1 a2 a3 a4 a5 L6 a7 a8 a9 a10 a11 a12 a13 L14 a15 w0  n :=
 Zal hA (LSpec.callL (show LSpec Tryz.prog 20 #[Value.agg #[vi a0, vi a1, vi a2, vi a3, vi a4, vi a5, ms E_ii L6, vi a7], Value.agg #[vi a8, vi a9, vi a10, vi a11, vi a12, vi a13, ms E_ii L14, vi a15]] [] (Value.bool w0) [] from Ziu a0 a1 a2 a3 a4 a5 L6 a7 a8 a9 a10 a11 a12 a13 L14 a15 N _ h) [] n [] rfl hnd hlt (show 0 ≤ 0 from by decide) (show ∀ j ∈ ([] : List Nat), j < 0 from by decide) (by rfl) trivial (by rfl) trivial trivial rfl rfl rfl rfl rfl)

noncomputable def ZgW (L0 L1 : List R_iiiiiiAi) : ZI → Value
 | .r0 w1 => Value.bool w1
noncomputable def Zgf (L0 L1 : List R_iiiiiiAi) : ZI → List (Option AObj)
 | .r0 w1 => [some (.cells (Zb E_iiiiiiAi L1) 27)]

def ZjT : ZA → Nat
 | .h1m0 v2 => 1
noncomputable def ZkG (L0 L1 : List R_iiiiiiAi) : ZA → List (Nat × Value)
 | .h1m0 v2 => [(0, ms E_iiiiiiAi L0), (1, vs 0 0 L1.length L1.length), (5, vi (v2 : Int))]
noncomputable def ZkH (L0 L1 : List R_iiiiiiAi) : ZA → List (Option AObj)
 | .h1m0 v2 => [some (.cells (Zb E_iiiiiiAi L1) 27)]

noncomputable def ZbR : Nat → Code × List Zap
 | 1 => ZaU [1, 1, 0, 1, 3] (ZbW Tryz.f8) []
 | _ => (.skip, [])
def Zgg : Nat → Bool
 | 1 => true
 | _ => true
noncomputable def ZkI (i : Nat) : List Zap := match Zgg i with | true => .rnd i :: (ZbR i).2 | false => (ZbR i).2

noncomputable def Za2 (L0 L1 : List R_iiiiiiAi) (N : Nat) : Mach := ⟨Tryz.f8, [.cells (Zb E_iiiiiiAi L1) 27], ZA, ZI, Zcy L0 L1 N, ZjT, ZbR, Zgg, ZkG L0 L1, ZkH L0 L1, ZgW L0 L1, Zgf L0 L1⟩

end Ev
end Go.Proofs.YtifdgbbbojccdaaGreat
