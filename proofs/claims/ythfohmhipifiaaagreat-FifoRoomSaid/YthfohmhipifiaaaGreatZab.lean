/- Part 2. -/
import Derived.Test.YthfohmhipifiaaaGreatZaa
import Derived.Deep.Upon
import Derived.Lib.AppendZerosOnto
import Derived.Laws.BytesString
import Derived.LaidEqlPtr
import Derived.Laws.StructEq
import Derived.Laws.LoneSync
import Derived.MapKept
import Derived.WideKeyRuns
import Derived.Lib.ConvBytes
set_option linter.unusedSimpArgs false
set_option linter.unusedVariables false
/- Each operation of the runner against the model's own: append, and all of them together. -/
namespace Go.Proofs.YthfohmhipifiaaaGreat
open Go.RowKit
namespace Ev
section
variable {P : Program} {ι : Ren} {w : World} {ρ ρ' : Operand → Value} {s s' : St} {v : Value}

structure SrcF (P : Program) (t tx ty e : TypeId) (i : TypeInfo) (u y' : Value) (m : Nat) (news : List Value) (w : World) : Prop where
 len : news.length = m * i.size
 one : ∀ u ∈ news, u.oneCell' = true
 nothing : m = 0 → ∀ (base : Option Addr) (sLen sCap : Nat), sLen ≤ sCap → (Builtin.append_ #[t, tx] ty #[.slice base sLen sCap, y']).run P w = .ok (.slice base sLen sCap) w
 room : 0 < m → ∀ (b off sLen sCap : Nat) (w' : World), sLen + m ≤ sCap → (storeCells ⟨b, off + sLen * i.size, none⟩ news).run P w = .ok () w' →
  (Builtin.append_ #[t, tx] ty #[.slice (some ⟨b, off, none⟩) sLen sCap, y']).run P w = .ok (.slice (some ⟨b, off, none⟩) (sLen + m) sCap) w'
 grow : 0 < m → ∀ (base : Option Addr) (sLen sCap : Nat) (olds : List Value), (Builtin.firstCells i.size sLen (.slice base sLen sCap)).run P w.drew = .ok olds.toArray w.drew → sCap < sLen + m → sLen + m ≤ 200000 →
  Builtin.nextslicecap (sLen + m) sCap * i.bytes ≤ 281474976710656 → (Builtin.append_ #[t, tx] ty #[.slice base sLen sCap, y']).run P w =
   .ok (.slice (some ⟨w.heap.size, 0, none⟩) (sLen + m) (grownCap w (sLen + m) sCap e)) (w.drew.alloc (.cells ((olds ++ news).toArray ++ Builtin.zeroCells u.cells (grownCap w (sLen + m) sCap e - (sLen + m))) e))
theorem ZyF {t tx ty e : TypeId} {i : TypeInfo} (ht : P.underlying t = some (.slice e)) (hi : P.info? e = some i) {b off sLen sCap : Nat} {x : Value} {n : Nat} {news : List Value} (hs : Src P i.size tx x n news w) (hroom : sLen + n ≤ sCap) {w' : World}
  (hst : (storeCells ⟨b, off + sLen * i.size, none⟩ news).run P w = .ok () w') :
  (Builtin.append_ #[t, tx] ty #[.slice (some ⟨b, off, none⟩) sLen sCap, x]).run P w = .ok (.slice (some ⟨b, off, none⟩) (sLen + n) sCap) w' := by
 rcases hs.kind with ⟨e', hk⟩ | hk <;> simp [Builtin.append_, run_underlying ht, run_underlying hk, sizeOf, typeInfo, hi, hs.len, hroom, hs.cells, Addr.add_lit, hst]
theorem SrcF.of {t tx ty e : TypeId} {i : TypeInfo} {u y' : Value} {m : Nat} {news : List Value} (ht : P.underlying t = some (.slice e)) (hi : P.info? e = some i) (hz : i.zero = some u) (hs : Src P i.size tx y' m news w) : SrcF P t tx ty e i u y' m news w :=
 ⟨hs.newsLen, hs.one, fun hm base sLen sCap hle => (by
   subst hm
   have : news = [] := List.eq_nil_of_length_eq_zero (by rw [hs.newsLen]; simp)
   subst this
   exact run_append_nothing w t tx ty e i ht hi base sLen sCap hle y' hs),
  fun _ b off sLen sCap w' hr hst => ZyF ht hi hs hr hst,
  fun _ base sLen sCap olds hold hg h2 hfit => run_append_grow_src (P := P) w t tx ty e i u ht hi hz base sLen sCap olds hold y' m news hs hg (by omega) hfit⟩
theorem SrcF.zeros {t tn ty e : TypeId} {i : TypeInfo} {z : Value} {kq kn : IntKind} (ht : P.underlying t = some (.slice e)) (htn : P.underlying tn = some (.int kn)) (hi : P.info? e = some i) (hz : i.zero = some z) (hzs : z.cells.size = i.size) (h1 : ∀ u ∈ z.cells.toList, u.oneCell' = true)
  {k : Nat} (h0 : 0 < k) (hs : 0 < i.size) (hk5 : k ≤ 100000) (hb : i.bytes ≤ 1000) : SrcF P t tn ty e i z (.int kq k) k (Builtin.zeroCells z.cells k).toList w := by
 have h48 : k * i.bytes ≤ 281474976710656 := by
  have : k * i.bytes ≤ 100000 * 1000 := Nat.mul_le_mul hk5 hb
  omega
 refine ⟨by rw [Array.length_toList, size_zeroCells, hzs], fun u hu => ?_, fun hm => by omega, fun _ b off sLen sCap w' hr hst => ?_, fun _ base sLen sCap olds hold hg h2 hfit => ?_⟩
 ·simp only [Builtin.zeroCells, Array.toList_map, List.mem_map] at hu
  obtain ⟨j, _, rfl⟩ := hu
  have hm : j % z.cells.size < z.cells.size := Nat.mod_lt _ (by omega)
  rw [getElem!_pos z.cells (j % z.cells.size) hm]
  exact h1 _ (by simp)
 ·have hk : k ≠ 0 := by omega
  have hw : IntKind.i64.wrap (k : Int) = k := by rw [IntKind.wrap_i64]; omega
  have h48i : ¬ (281474976710656 < (k : Int) * (i.bytes : Int)) := by
   rw [← Int.natCast_mul]
   omega
  have hneg : ¬ ((k : Int) < 0) := by omega
  have hns : ¬ (k * i.size = 0) := Nat.mul_ne_zero hk (by omega)
  simp [Builtin.append_, run_underlying ht, run_underlying htn, sizeOf, typeInfo, zeroValue, hi, hz, asInt, asIntOf, hw, hk, hneg, hns, hr, h48i, Addr.add_lit, hst]
 ·rw [Lib.run_append_grow_zeros w t tn ty e i z kq kn ht htn hi hz base sLen sCap olds hold k h0 hs hg (by omega) h48 hfit]
  congr 3
  apply Array.ext'
  simp
theorem Zvk (he : Emb P ι s.h.get w) {k o m : Nat} {l : List Value} (h : ZoP s k o m = some l) :
  ∃ (b : Nat × Nat) (cs : List Value), ι k = some b ∧ cs.length = m ∧ l.length = m ∧ (∀ j u, cs[j]? = some u → w.cell? ((⟨b.1, o, none⟩ : Addr).add j) = some u) ∧ ∀ (j : Nat) x y, l[j]? = some x → cs[j]? = some y → VR ι x y := by
 unfold ZoP at h
 split at h
 ·rename_i c t hk
  exact Znr he (by unfold rowAt; rw [hk]; exact h)
 ·rename_i O hk
  obtain ⟨b, hb, hB⟩ := he.ro0 hk
  cases hm : Nat.beq m 0 with
  | true =>
   rw [hm] at h
   injection h with h
   subst h
   obtain rfl := Nat.eq_of_beq_eq_true hm
   exact ⟨b, [], hb, rfl, rfl, fun j u hu => by simp at hu, fun j x y hx _ => by simp at hx⟩
  | false =>
  rw [hm] at h
  simp only [cond_false] at h
  split at h
  ·rename_i l' hr
   obtain ⟨h1, h⟩ := Zp h
   injection h with h
   subst h
   unfold Z0a at hr
   split at hr
   ·obtain ⟨hl, hcs⟩ := ZwT (w := w) hB hr
    refine ⟨b, l', hb, hl, hl, hcs, fun j x y hx hy => ?_⟩
    rw [hx] at hy
    injection hy with hy
    subst hy
    exact .atom (ZaG h1 _ (List.mem_of_getElem? hx))
   ·cases hr
  ·cases h
 ·cases h
theorem ZwY (c : List Cell) : ∀ x ∈ Zw c, Zbw x = true := fun x hx => by
 unfold Zw at hx
 obtain ⟨b, _, rfl⟩ := List.mem_map.1 hx
 cases b <;> rfl
theorem ZyG (he : Emb P ι s.h.get w) {m : Nat} {t tx ty e : TypeId} {i : TypeInfo} {u y y' : Value} {l : List Value} (ht : P.underlying t = some (.slice e)) (hi : P.info? e = some i) (hz : i.zero = some u) (hzs : u.cells.size = i.size) (hb : i.bytes ≤ 1000) (ha : Z5 atom u.cells.toList = true) (hv : VR ι y y') (h : Zfg P s u.cells.toList i.size tx y = some (m, l)) :
  ∃ news, SrcF P t tx ty e i u y' m news w ∧ l.length = m * i.size ∧ ∀ (j : Nat) x u, l[j]? = some x → news[j]? = some u → VR ι x u := by
 unfold Zfg at h
 split at h
 ·rename_i e' hu
  injection h with h
  injection h with h1 h2
  subst h1 h2
  have := hv.eq_of_atom (by rfl)
  subst this
  exact ⟨[], SrcF.of ht hi hz (Src.ofNil w hu 0), by simp, fun j x u hx _ => by simp at hx⟩
 ·rename_i e' k o n c hu
  split at h
  ·rename_i r hr
   replace h := Zp h
   obtain ⟨h1, h⟩ := h
   injection h with h
   injection h with h2 h3
   subst h2 h3
   obtain ⟨b, cs, hb, hcl, hll, hcs, hvv⟩ := Zvk he hr
   have hone : ∀ u ∈ cs, u.oneCell' = true := fun u hu => by
    obtain ⟨j, hj⟩ := List.mem_iff_getElem?.1 hu
    have hjl : j < r.length := by have := (List.getElem?_eq_some_iff.1 hj).1; omega
    exact ZrK (hvv j r[j] u (List.getElem?_eq_getElem hjl) hj) (ZaG h1 _ (List.getElem_mem hjl))
   cases hv with
   | atom h => simp [Ev.atom] at h
   | slice hb2 hn hc hq =>
    rename_i b2 c'
    rw [hb] at hb2; injection hb2 with hb2; subst hb2
    exact ⟨cs, SrcF.of ht hi hz (Src.ofSlice w hu _ n c' cs hcl hcs hone), hll, hvv⟩
   | slice0 _h0 =>
    rename_i a'
    have : cs = [] := List.eq_nil_of_length_eq_zero (by omega)
    subst this
    cases a' with
    | none => exact ⟨[], SrcF.of ht hi hz (Src.ofNil w hu 0), hll, hvv⟩
    | some a' => exact ⟨[], SrcF.of ht hi hz (Src.ofSlice w hu _ 0 0 [] (by simp) (fun j u hu => by simp at hu) (fun u hu => by cases hu)), hll, hvv⟩
  ·cases h
 ·rename_i e' id o z n c hu
  have nil : n * i.size = 0 → ∃ news, SrcF P t tx ty e i u y' n news w ∧ ([] : List Value).length = n * i.size ∧ ∀ (j : Nat) x u, ([] : List Value)[j]? = some x → news[j]? = some u → VR ι x u := fun h0 => by
   cases hv with
   | atom h => simp [Ev.atom] at h
   | mslice hb hn hc =>
    exact ⟨[], SrcF.of ht hi hz (Src.ofSlice w hu _ n _ [] (by simp [h0]) (fun j u hu => by simp at hu) (fun u hu => by cases hu)), by simp [h0], fun j x u hx _ => by simp at hx⟩
   | slice0 _h0 =>
    rename_i a'
    cases a' with
    | none => exact ⟨[], SrcF.of ht hi hz (Src.ofNil w hu 0), by simp, fun j x u hx _ => by simp at hx⟩
    | some a' => exact ⟨[], SrcF.of ht hi hz (Src.ofSlice w hu _ 0 0 [] (by simp) (fun j u hu => by simp at hu) (fun u hu => by cases hu)), by simp, fun j x u hx _ => by simp at hx⟩
  cases hm0 : Nat.beq (n * i.size) 0 with
  | true =>
   rw [hm0] at h
   injection h with h
   injection h with h2 h3
   subst h2 h3
   exact nil (Nat.eq_of_beq_eq_true hm0)
  | false =>
   rw [hm0] at h
   simp only [cond_false] at h
   split at h
   ·rename_i c0 hg
    injection h with h
    injection h with h2 h3
    subst h2 h3
    have hne : n * i.size ≠ 0 := fun e0 => by rw [e0] at hm0; cases hm0
    cases hv with
    | atom h => simp [Ev.atom] at h
    | mslice hb hn hc =>
     obtain ⟨cs, q1, q2, q3, q4⟩ := ZoY (q := 0) he hb hg
     have q2' : (Zw c0).length = n * i.size := by unfold Zw; rw [List.length_map]; exact q2
     have hone : ∀ u ∈ cs, u.oneCell' = true := fun u hu => by
      obtain ⟨j, hj⟩ := List.mem_iff_getElem?.1 hu
      have hjl : j < (Zw c0).length := by have := (List.getElem?_eq_some_iff.1 hj).1; omega
      exact ZrK (q4 j (Zw c0)[j] u (List.getElem?_eq_getElem hjl) hj) (ZwY c0 _ (List.getElem_mem hjl))
     exact ⟨cs, SrcF.of ht hi hz (Src.ofSlice w hu _ n _ cs q1 q3 hone), q2', q4⟩
    | slice0 _h0 => exact absurd (Nat.zero_mul _) hne
   ·cases h
 ·rename_i kk kq n hu
  replace h := Zp h
  obtain ⟨hg, h⟩ := h
  simp only [Bool.and_eq_true] at hg
  obtain ⟨⟨g1, g2⟩, g3⟩ := hg
  injection h with h
  injection h with h2 h3
  subst h2 h3
  have hn0 : 0 < n := Nat.le_of_ble_eq_true g1
  have hs0 : 0 < i.size := Nat.le_of_ble_eq_true g2
  have hn5 : n ≤ 100000 := Nat.le_of_ble_eq_true g3
  have := hv.int_inv
  subst this
  have hone : ∀ x ∈ u.cells.toList, x.oneCell' = true := fun x hx => by
   have := ZaG ha x hx
   cases x <;> first | rfl | (simp [Ev.atom] at this)
  have hpw := ZwU (ι := ι) ha (by omega) (n * u.cells.size)
  refine ⟨(Builtin.zeroCells u.cells n).toList, SrcF.zeros ht hu hi hz hzs hone hn0 hs0 hn5 hb, by simp [rep, hzs], fun j x y hx hy => ?_⟩
  exact hpw.2 j x y (by simpa using hx) (by rw [← Array.getElem?_toList]; exact hy)
 ·rename_i b hu
  replace h := Zp h
  obtain ⟨hg, h⟩ := h
  injection h with h
  injection h with h2 h3
  subst h2 h3
  have hs : i.size = 1 := Nat.eq_of_beq_eq_true hg
  have := hv.eq_of_atom (by rfl)
  subst this
  have hS : Src P i.size tx (.string b) b.size (byteCells b) w := by rw [hs]; exact Src.ofString w hu b
  refine ⟨_, SrcF.of ht hi hz hS, by rw [hs, Nat.mul_one]; show (b.data.toList.map _).length = b.data.size; rw [List.length_map, Array.length_toList], fun j x u hx hy => ?_⟩
  have e : Zgt b = byteCells b := rfl
  rw [← e, hx] at hy; injection hy with hy; subst hy
  simp only [Zgt, List.getElem?_map, Option.map_eq_some_iff] at hx
  obtain ⟨_, _, rfl⟩ := hx
  exact .atom rfl
 ·cases h
theorem Z2C {l c : List Value} (hl : l.length = c.length) (h : ∀ (j : Nat) x u, l[j]? = some x → c[j]? = some u → VR ι x u) (d : Array Value) : CR ι l (c.toArray ++ d) :=
 ⟨by simp; omega, fun j x u hx hu => h j x u hx (by
  have hj : j < c.length := by have := (List.getElem?_eq_some_iff.1 hx).1; omega
  rw [Array.getElem?_append_left (by simpa using hj)] at hu
  simpa using hu)⟩
theorem Zef {t tx ty : TypeId} {x y x' y' : Value} (hx : VR ι x x') (hy : VR ι y y') (he : Emb P ι s.h.get w) (hf : Fresh ι s.n s'.n) (h : Zdq P s t tx x y = some (v, s')) :
  ∃ v' w' ι', (Builtin.append_ #[t, tx] ty #[x', y']).run P w = .ok v' w' ∧ Step P ι s.h.get w ι' s'.h.get w' ∧ Dom ι ι' s.n s'.n ∧ VR ι' v v' := by
 unfold Zdq at h
 split at h
 ·rename_i e hu
  split at h
  ·rename_i i z hi hz
   split at h
   ·rename_i m l hc
    replace h := Zp h
    obtain ⟨hg, h⟩ := h
    simp only [Bool.and_eq_true] at hg
    obtain ⟨⟨hg1, hg2⟩, hg3⟩ := hg
    have h1 : m ≤ 100000 := Nat.le_of_ble_eq_true hg1
    have h2 : i.bytes ≤ 1000 := Nat.le_of_ble_eq_true hg2
    have h3 : z.length = i.size := Nat.eq_of_beq_eq_true hg3
    obtain ⟨i', u, hi', hu', rfl, ha⟩ := Zil hz
    rw [hi] at hi'; injection hi' with hi'; subst hi'
    have h3' : u.cells.size = i.size := by simpa using h3
    obtain ⟨news, hsrc, hll, hvv⟩ := ZyG (ty := ty) he hu hi hu' h3' h2 ha hy hc
    have hnl : l.length = news.length := by rw [hll, hsrc.len]
    have nothing : ∀ {base : Option Addr} {sLen sCap : Nat}, x' = .slice base sLen sCap → sLen ≤ sCap → m = 0 → x = v → s = s' →
      ∃ v' w' ι', (Builtin.append_ #[t, tx] ty #[x', y']).run P w = .ok v' w' ∧ Step P ι s.h.get w ι' s'.h.get w' ∧ Dom ι ι' s.n s'.n ∧ VR ι' v v' := by
     intro base sLen sCap hx' hle hm e1 e2
     subst e1 e2
     rw [hx']
     exact ⟨_, w, ι, hsrc.nothing hm base sLen sCap hle, Step.refl he, Dom.refl, hx' ▸ hx⟩
    have grow : ∀ (q : Bool) {base : Option Addr} {sLen sCap : Nat} {olds : List Value} {h0 : AH} {old : List Value}, x' = .slice base sLen sCap → (Builtin.firstCells i.size sLen (.slice base sLen sCap)).run P w.drew = .ok olds.toArray w.drew → olds.length = sLen * i.size →
      old.length = olds.length → (∀ (j : Nat) x u, old[j]? = some x → olds[j]? = some u → VR ι x u) → 0 < m → sCap < sLen + m → sLen ≤ 100000 → Step P ι s.h.get w ι h0 w → s'.n = s.n + 1 → s'.h.get = upd h0 s.n (some (.cells (old ++ l) e q)) → v = .slice (some ⟨s.n, 0, none⟩) (sLen + m) (sLen + m) →
      ∃ v' w' ι', (Builtin.append_ #[t, tx] ty #[x', y']).run P w = .ok v' w' ∧ Step P ι s.h.get w ι' s'.h.get w' ∧ Dom ι ι' s.n s'.n ∧ VR ι' v v' := by
     intro q base sLen sCap olds h0 old hx' hold hol hlo hvo hm00 hgr hsl hst hn hh hv
     subst hv
     have hfit : Builtin.nextslicecap (sLen + m) sCap * i.bytes ≤ 281474976710656 := growslice_fits hgr (by
      have : (sLen + m) * i.bytes ≤ 200000 * 1000 := Nat.mul_le_mul (by omega) h2
      omega)
     have hrun := hsrc.grow hm00 base sLen sCap olds hold hgr (by omega) hfit
     have hge := grownCap_ge w (sLen + m) sCap e
     have hdrew : Step P ι h0 w ι h0 w.drew := Step.still hst.emb rfl rfl rfl rfl
     have hcr : CR ι (old ++ l) ((olds ++ news).toArray ++ Builtin.zeroCells u.cells (grownCap w (sLen + m) sCap e - (sLen + m))) := by
      refine Z2C (by simp; omega) (fun j x u hx hu => ?_) _
      by_cases hj : j < old.length
      ·rw [List.getElem?_append_left hj] at hx
       rw [List.getElem?_append_left (by omega)] at hu
       exact hvo j x u hx hu
      ·rw [List.getElem?_append_right (by omega)] at hx
       rw [List.getElem?_append_right (by omega), ← hlo] at hu
       exact hvv _ x u hx hu
     have hal := Step.alloc hdrew.emb (n := s.n) (Nat.lt_of_lt_of_le (by omega) hf.1) (hf.2 s.n (Nat.le_refl _) (by omega)) e hcr (grownCap w (sLen + m) sCap e) (fun i2 hi2 => by
      rw [hi] at hi2; injection hi2 with hi2; subst hi2
      simp only [Array.size_append, List.size_toArray, List.length_append, size_zeroCells, hol, hsrc.len, h3']
      rw [← Nat.add_mul, ← Nat.add_mul]
      exact Nat.mul_le_mul_right _ (by omega))
     replace hal := hal.asQ q
     rw [← hh] at hal
     rw [hx']
     refine ⟨_, _, _, hrun, (hst.trans hdrew).trans hal, hn ▸ Dom.one, .slice (b := (w.drew.heap.size, grownCap w (sLen + m) sCap e)) Zo (Nat.le_refl _) hge (fun _ => .inr (Nat.le_refl _))⟩
    split at h
    ·have hx' : x' = .slice none 0 0 := hx.eq_of_atom rfl
     cases hm : Nat.beq m 0 with
     | true =>
      rw [hm] at h
      injection h with h
      injection h with h4 h5
      exact nothing hx' (Nat.le_refl _) (Nat.eq_of_beq_eq_true hm) h4 h5
     | false =>
      rw [hm] at h
      injection h with h
      injection h with h4 h5
      subst h4 h5
      have hm0 : m ≠ 0 := fun e => by subst e; simp at hm
      refine grow false (olds := []) (old := []) (h0 := s.h.get) hx' (run_firstCells_none w.drew i.size 0 0 0) (by simp) rfl (fun j x u hx _ => by simp at hx) (by omega) (by omega) (by omega) (Step.refl he) rfl ?_ (by simp)
      show (s.h.set s.n (some (.cells l e))).get = _
      rw [Tr.get_set, List.nil_append]
    ·rename_i k o n c
     cases hm : Nat.beq m 0 with
     | true =>
      rw [hm] at h
      injection h with h
      injection h with h4 h5
      have hm0 := Nat.eq_of_beq_eq_true hm
      cases hx with
      | atom h => simp [Ev.atom] at h
      | slice hb hn hc hq => exact nothing rfl (by omega) hm0 h4 h5
      | slice0 => exact nothing rfl (Nat.le_refl _) hm0 h4 h5
     | false =>
      rw [hm] at h
      have hm0 : m ≠ 0 := fun e => by subst e; simp at hm
      simp only [cond_false] at h
      cases hr : Nat.ble (n + m) c with
      | true =>
       rw [hr] at h
       have hrm : n + m ≤ c := Nat.le_of_ble_eq_true hr
       simp only [cond_true] at h
       split at h
       ·rename_i s1 hw
        injection h with h
        injection h with h4 h5
        subst h4 h5
        cases hx with
        | atom h => simp [Ev.atom] at h
        | slice hb hn hc hq =>
         obtain ⟨b2, w', hb2, hrun, hstep, hsn, _, _⟩ := Zj9 he (c := news.toArray) hw (by simpa using hnl) (fun j x u hx hu => hvv j x u hx (by simpa using hu))
         rw [hb] at hb2; injection hb2 with hb2; subst hb2
         exact ⟨_, w', ι, hsrc.room (by omega) _ _ _ _ _ (by omega) (by simpa using hrun), hstep, hsn ▸ Dom.refl, .slice hb hrm hc hq⟩
        | slice0 => omega
       ·cases h
      | false =>
       rw [hr] at h
       have hrm : ¬ (n + m ≤ c) := fun e => by rw [Nat.ble_eq_true_of_le e] at hr; cases hr
       simp only [cond_false] at h
       replace h := Zp h
       obtain ⟨hg, h⟩ := h
       simp only [Bool.and_eq_true] at hg
       have ho : o = 0 := Nat.eq_of_beq_eq_true hg.1
       have hn5 : n ≤ 100000 := Nat.le_of_ble_eq_true hg.2
       split at h
       ·rename_i cs e' q0 hk
        replace h := Zp h
        obtain ⟨hee, h⟩ := h
        have hee' : e = e' := Nat.eq_of_beq_eq_true hee
        subst hee'
        split at h
        ·rename_i old hold
         injection h with h
         injection h with h4 h5
         obtain ⟨rfl, hlen⟩ := ZeB hold
         obtain ⟨bk, hbk, hdis⟩ := he.obj k cs e _ hk
         have hgrow0 : s'.n = s.n + 1 ∧ s'.h.get = upd (upd s.h.get k none) s.n (some (.cells (cs.take (n * i.size) ++ l) e q0)) := by
          subst h5
          refine ⟨rfl, ?_⟩
          show ((s.h.set k none).set s.n _).get = _
          rw [Tr.get_set, Tr.get_set]
         cases hx with
         | atom h => simp [Ev.atom] at h
         | slice0 _h0 =>
          rename_i ap
          cases ap with
          | none => exact grow q0 (olds := []) (old := cs.take (0 * i.size)) rfl (run_firstCells_none w.drew i.size 0 0 0) (by simp) (by simp) (fun j x u hx _ => by simp at hx) (by omega) (by omega) (by omega) (Step.kill he k) hgrow0.1 hgrow0.2 h4.symm
          | some ap => exact grow q0 (olds := []) (old := cs.take (0 * i.size)) rfl (by simp [Builtin.firstCells, loadCells, loadCellsFrom, Sem.run]) (by simp) (by simp) (fun j x u hx _ => by simp at hx) (by omega) (by omega) (by omega) (Step.kill he k) hgrow0.1 hgrow0.2 h4.symm
         | slice hb hn hc hq =>
          rename_i b c'
          subst ho
          rw [hbk] at hb; injection hb with hb; subst hb
          obtain ⟨z1, z2, z3⟩ | ⟨hqc, C, hB, hC, hQ⟩ := hdis
          ·subst z2
           have hz0 : n * i.size = 0 := by simp only [List.length_nil] at hlen; omega
           have hcc : c' < n + m := by rcases hq rfl with h | h <;> omega
           exact grow q0 (olds := []) (old := List.take (n * i.size) []) rfl (by
            have : i.size = 0 ∨ n = 0 := by rcases Nat.mul_eq_zero.1 hz0 with h | h; exact .inr h; exact .inl h
            rcases this with h | h
            ·rw [h]; simp [Builtin.firstCells, loadCells, loadCellsFrom, Sem.run]
            ·subst h; simp [Builtin.firstCells, loadCells, loadCellsFrom, Sem.run]) (by simp [hz0]) (by simp) (fun j x u hx _ => by simp at hx) (by omega) hcc hn5 (Step.kill he k) hgrow0.1 hgrow0.2 h4.symm
          have h0 := hC.1
          by_cases hin : n + m ≤ c'
          ·-- there is room
           have hcap : c' ≤ bk.2 := by
            rcases hq rfl with h | h
            ·omega
            ·exact h
           have hfit : (n + m) * i.size ≤ C.size := Nat.le_trans (Nat.mul_le_mul_right _ (by omega)) (hQ i hi)
           rw [Nat.add_mul] at hfit
           have hnews := hsrc.len
           obtain ⟨fr, hBf, hUf⟩ := hB.unf
           have hrun := ZiR P bk.1 (0 + n * i.size) e news 0 C w hBf hUf (by omega) hsrc.one
           simp only [Nat.add_zero] at hrun
           obtain ⟨q1, q2, q3⟩ := Zvg (C' := (C.toList.take (0 + n * i.size) ++ news ++ C.toList.drop (0 + n * i.size + news.length)).toArray) hB (by simp [List.length_take, List.length_drop]; omega)
           have e1 : (cs.take (n * i.size)).length = n * i.size := by rw [List.length_take]; omega
           have e2 : (C.toList.take (0 + n * i.size)).length = n * i.size := by rw [List.length_take]; simp; omega
           have hcr : CR ι (cs.take (n * i.size) ++ l) (C.toList.take (0 + n * i.size) ++ news ++ C.toList.drop (0 + n * i.size + news.length)).toArray := by
            refine ⟨by simp [List.length_take, List.length_drop]; omega, fun j x u hx hu => ?_⟩
            simp only [List.getElem?_toArray, List.append_assoc] at hu
            by_cases hj : j < n * i.size
            ·rw [List.getElem?_append_left (by omega), List.getElem?_take_of_lt hj] at hx
             rw [List.getElem?_append_left (by omega), List.getElem?_take_of_lt (by omega)] at hu
             exact hC.2 j x u hx (by simpa using hu)
            ·have hjl : j < (cs.take (n * i.size) ++ l).length := (List.getElem?_eq_some_iff.1 hx).1
             rw [List.length_append] at hjl
             rw [List.getElem?_append_right (by omega), e1] at hx
             rw [List.getElem?_append_right (by omega), e2, List.getElem?_append_left (by omega)] at hu
             exact hvv _ x u hx hu
           have hopen := Step.opened he hk hbk hqc
           have hst := hopen.trans (Step.store hopen.emb (Zo : upd s.h.get k (some (.cells cs e)) k = _) hbk hcr (by simp [List.length_take, List.length_drop]; omega) hB q1 q2 q3 rfl rfl rfl)
           have hre := Step.rename hst.emb (n := s.n) (k0 := k) (b := bk) (Nat.lt_of_lt_of_le (by omega) hf.1) (hf.2 s.n (Nat.le_refl _) (by omega)) hbk (by rw [Zo]; rfl)
           rw [Zo] at hre
           replace hre := hre.asQ q0
           have hfin : upd (upd (upd (upd s.h.get k (some (.cells cs e))) k (some (.cells (cs.take (n * i.size) ++ l) e))) k none) s.n (some (.cells (cs.take (n * i.size) ++ l) e q0)) = s'.h.get := by
            rw [hgrow0.2]
            funext j
            simp only [upd]
            split
            ·rfl
            ·split <;> rfl
           rw [hfin] at hre
           refine ⟨_, _, _, hsrc.room (by omega) _ _ _ _ _ hin hrun, hst.trans hre, hgrow0.1 ▸ Dom.one, ?_⟩
           rw [← h4]
           exact .slice (b := bk) Zo (Nat.le_refl _) hin (fun _ => .inr hcap)
          ·-- there is none
           have hcs : ∀ j u, (C.toList.take (n * i.size))[j]? = some u → w.drew.cell? ((⟨bk.1, 0, none⟩ : Addr).add j) = some u := fun j u hj => by
            have hjl : j < n * i.size := by have := (List.getElem?_eq_some_iff.1 hj).1; simp at this; omega
            rw [List.getElem?_take_of_lt hjl] at hj
            have := ZzB (w := w.drew) (o := 0) (j := j) (show Cel w.drew.heap[bk.1]? _ _ from hB)
            rw [this, Nat.zero_add]
            simpa using hj
           have hol : (C.toList.take (n * i.size)).length = n * i.size := by rw [List.length_take]; simp; omega
           refine grow q0 (olds := C.toList.take (n * i.size)) (old := cs.take (n * i.size)) rfl (run_firstCells_some w.drew i.size n _ n c' _ hol hcs) hol (by rw [hol, List.length_take]; omega) (fun j x u hx hu => ?_) (by omega) (by omega) hn5 (Step.kill he k) hgrow0.1 hgrow0.2 h4.symm
           have hjl : j < n * i.size := by have := (List.getElem?_eq_some_iff.1 hx).1; rw [List.length_take] at this; omega
           rw [List.getElem?_take_of_lt hjl] at hx hu
           exact hC.2 j x u hx (by simpa using hu)
        ·cases h
       ·cases h
    ·cases h
   ·cases h
  ·cases h
 ·cases h

/-! ### The others -/
theorem ZyH {t : TypeId} {x y x' y' : Value} {q : Bool} (hx : VR ι x x') (hy : VR ι y y') (h : ZsM (P.underlying t) x y = some q) : (Op.equal t x' y').run P w = .ok q w := by
 have iso : ∀ {a : Option Addr} {z : Value}, VR ι (.pointer a) z → ∃ a', z = .pointer a' ∧ a'.isNone = a.isNone := fun {a z} h => by
  cases h with
  | atom h => exact ⟨_, rfl, rfl⟩
  | ptr h => exact ⟨_, rfl, rfl⟩
  | mptr h => exact ⟨_, rfl, rfl⟩
 have isn : ∀ {n c : Nat} {z : Value}, VR ι (.slice none n c) z → z = .slice none n c := fun {n c z} h => by
  cases h with
  | atom h => rfl
 have isl : ∀ {a : Addr} {n c : Nat} {z : Value}, (Zmx && Nat.beq c 0) = false → VR ι (.slice (some a) n c) z → ∃ a' n' c', z = .slice (some a') n' c' := fun {a n c z} hc h => by
  cases h with
  | atom h => simp [Ev.atom] at h
  | slice h => exact ⟨_, _, _, rfl⟩
  | mslice h => exact ⟨_, _, _, rfl⟩
  | slice0 h =>
   rename_i a'
   cases a' with
   | some a' => exact ⟨_, _, _, rfl⟩
   | none => rw [h rfl] at hc; cases hc
 have key : ∀ d : Nat, (Op.equalIn (d + 1) t x' y').run P w = .ok q w := fun d => by
  unfold ZsM at h
  split at h
  ·rename_i e b hu
   injection h with h; subst h
   have hx' := hx.eq_of_atom rfl
   obtain ⟨b', hy', hb⟩ := iso hy
   subst hx' hy'
   simp [Op.equalIn, run_underlying hu, hb]
  ·rename_i e a hne hu
   injection h with h; subst h
   have hy' := hy.eq_of_atom rfl
   obtain ⟨b', hx', hb⟩ := iso hx
   subst hx' hy'
   cases b' with
   | none => cases a with
    | none => exact absurd rfl hne
    | some a => simp at hb
   | some b' => simp [Op.equalIn, run_underlying hu]
  ·rename_i e n c n' c' hu
   injection h with h; subst h
   have hx' := isn hx
   have hy' := isn hy
   subst hx' hy'
   simp [Op.equalIn, run_underlying hu]
  ·rename_i e n c b n' c' hu
   cases hc : (Zmx && Nat.beq c' 0) with
   | true => rw [hc] at h; cases h
   | false =>
    rw [hc] at h
    injection h with h; subst h
    have hx' := isn hx
    obtain ⟨b', _, _, hy'⟩ := isl hc hy
    subst hx' hy'
    simp [Op.equalIn, run_underlying hu]
  ·rename_i e a n c n' c' hu
   cases hc : (Zmx && Nat.beq c 0) with
   | true => rw [hc] at h; cases h
   | false =>
    rw [hc] at h
    injection h with h; subst h
    have hy' := isn hy
    obtain ⟨a', _, _, hx'⟩ := isl hc hx
    subst hx' hy'
    simp [Op.equalIn, run_underlying hu]
  ·rename_i hu
   injection h with h; subst h
   have hx' := hx.eq_of_atom rfl
   subst hx'
   cases hy with
   | atom h => simp [Op.equalIn, run_underlying hu]
   | func _ _ _ _ => simp [Op.equalIn, run_underlying hu]
  ·rename_i hu
   injection h with h; subst h
   have hy' := hy.eq_of_atom rfl
   subst hy'
   cases hx with
   | atom h => simp [Op.equalIn, run_underlying hu]
   | func _ _ _ _ => simp [Op.equalIn, run_underlying hu]
  ·cases h
 exact key 9999
end
section
variable {P : Program} {ι : Ren} {w : World} {ρ ρ' : Operand → Value} {s s' : St} {v : Value}
theorem Zad {s s1 : St} {a : Option Told} (h : s.nextW = (a, s1)) : s1.h = s.h ∧ s1.n = s.n ∧ s1.ob = s.ob ∧ s1.wr = s.wr := by
 unfold St.nextW at h
 split at h <;> (injection h with h1 h2; subst h1 h2; exact ⟨rfl, rfl, rfl, rfl⟩)
theorem Res.behind {r : Result Next} {s1 : St} (h : Res P r s ι w v s1) (h1 : s'.h = s1.h) (h2 : s'.n = s1.n) : Res P r s ι w v s' := by
 obtain ⟨nx, w', ι', v', a, b, c, d, e⟩ := h
 exact ⟨nx, w', ι', v', a, b, h1 ▸ c, h2 ▸ d, e⟩
theorem Zvl {t : TypeId} {a x : Operand} {c' : List Value} (hob : ∀ p ∈ s'.ob, p.1 = p.2) (h : ZhC P ρ t a x c' s = some (v, s')) : ∃ s1, ZiO P ρ t a x s = some (v, s1) ∧ s'.h = s1.h ∧ s'.n = s1.n := by
 unfold ZhC at h
 split at h
 ·rename_i k o i ha hi
  obtain ⟨hg, h⟩ := Zp h
  simp only [Bool.and_eq_true] at hg
  split at h
  ·rename_i c t' q0 hk
   obtain ⟨hq0, h⟩ := Zp h
   injection h with h
   injection h with h1 h2
   subst h1 h2
   have q := Zac.1 (hob (dP (o + (ρ x).cells.toList.length ≤ c.length ∧ Zgr c o (ρ x).cells.toList = c'), true) (by simp [St.told]))
   refine ⟨s.putK k c' t' q0, ?_, rfl, rfl⟩
   unfold ZiO
   rw [ha, hi]
   simp only [hg.1, cond_true]
   unfold Zdg
   rw [hk]
   simp only [hg.2, Nat.ble_eq_true_of_le q.1, hq0, Bool.and_self, cond_true, q.2]
  ·cases h
 ·cases h
theorem ZdT {d n : Nat} {x : Option Operand} (h : ZcI ρ d x n = true) : Zgh ρ d x = some n := by
 unfold ZcI at h
 unfold Zgh
 split at h
 ·rw [Zac.1 h]
 ·exact Zfi h
theorem Z0X {t : TypeId} {x : Operand} {lo hi : Option Operand} {l m : Nat} (hob : ∀ p ∈ s'.ob, p.1 = p.2) (h : Zk5 P ρ t x lo hi l m s = some (v, s')) : ZfU P ρ t x lo hi s = some (v, s) ∧ s'.h = s.h ∧ s'.n = s.n := by
 unfold Zk5 at h
 split at h
 ·rename_i e k o n c hu hx
  split at h
  ·rename_i ie hie
   obtain ⟨hg, h⟩ := Zp h
   injection h with h
   injection h with h1 h2
   subst h1 h2
   have q1 := ZdT (hob (ZcI ρ 0 lo l, true) (by simp [St.told]))
   have q2 := ZdT (hob (ZcI ρ n hi m, true) (by simp [St.told]))
   have q3 := Zac.1 (hob (dP (l ≤ m ∧ m ≤ c), true) (by simp [St.told]))
   refine ⟨?_, rfl, rfl⟩
   unfold ZfU
   rw [hu, hx]
   simp only [hie, q1, q2, hg, Nat.ble_eq_true_of_le q3.1, Nat.ble_eq_true_of_le q3.2, Bool.and_self, cond_true]
  ·cases h
 ·rename_i e hu hx
  split at h
  ·rename_i ie hie
   injection h with h
   injection h with h1 h2
   subst h1 h2
   have q1 := ZdT (hob (ZcI ρ 0 lo l, true) (by simp [St.told]))
   have q2 := ZdT (hob (ZcI ρ 0 hi m, true) (by simp [St.told]))
   have q3 := Zac.1 (hob (dP (l = 0 ∧ m = 0), true) (by simp [St.told]))
   obtain ⟨q3, q4⟩ := q3
   subst q3 q4
   refine ⟨?_, rfl, rfl⟩
   unfold ZfU
   rw [hu, hx]
   simp only [hie, q1, q2]
  ·cases h
 ·cases h
theorem ZwZ {o : Oper} {t : TypeId} {x : Operand} {lo hi : Option Operand} {l m m2 : Nat} {cs : List Cell} (ho : o.op = .slice t x lo hi none) (hρ : ∀ x, VR ι (ρ x) (ρ' x)) (he : Emb P ι s.h.get w) (hob : ∀ p ∈ s'.ob, p.1 = p.2) (h : Zk6 P ρ t x lo hi l m m2 cs s = some (v, s')) :
  s'.h = s.h ∧ s'.n = s.n ∧ Res P ((execOp ρ' o).run P w) s ι w v s := by
 unfold Zk6 at h
 split at h
 ·rename_i e id o' z n c hu hx
  split at h
  ·rename_i ie hi'
   injection h with h
   injection h with h1 h2
   subst h1 h2
   have hl := ZdT (hob (ZcI ρ 0 lo l, true) (by simp [St.told]))
   have hhh := ZdT (hob (ZcI ρ n hi m, true) (by simp [St.told]))
   obtain ⟨g1, g2, g3, g4, g5⟩ := Zac.1 (hob (dP (l ≤ m ∧ m ≤ c ∧ Zay id (o' + l * ie.size) cs.length = some cs ∧ (m - l) * ie.size = cs.length ∧ m2 = m - l), true) (by simp [St.told]))
   subst g5
   have hv := hx ▸ hρ x
   generalize hx' : ρ' x = x' at hv
   have hadd : ∀ (a : Addr) (m : Nat), a.spot = none → a.add m = ⟨a.block, a.off + m, none⟩ := fun a m hs => by
    unfold Addr.add; split
    ·rename_i h0; subst h0; cases a; simp at hs; subst hs; rfl
    ·rfl
   refine ⟨rfl, rfl, ?_⟩
   cases hv with
   | atom h => simp [Ev.atom] at h
   | mslice hb hn hc =>
    rename_i b base c' q
    have hrun := ZfA (P := P) (w := w) (c' := c') hρ hl hhh g1 g2 hc true
    have hr : (execOp ρ' o).run P w = .ok (.value (.slice (if c' = l then some ⟨b, base + o', none⟩ else some ⟨b, base + o' + l * ie.size, none⟩) (m - l) (c' - l))) w := by
     simp [execOp, ho, Instr.sliceAt, Instr.slice, run_underlying hu, hx', hrun, sizeOf, typeInfo, hi', Result.andThen, Sem.run, hadd]
    refine Res.same he hr ?_
    by_cases hcl : c' = l
    ·rw [if_pos hcl]
     have h0 : m - l = 0 := by omega
     have h00 : c' - l = 0 := by omega
     rw [h0, h00]
     exact .slice0 fun h => by cases h
    ·rw [if_neg hcl, Nat.add_assoc]
     have := (he.mks b base id q hb).2.1.2 (o' + l * ie.size) cs g3
     exact .mslice (o := 0) this (Nat.le_refl _) (by omega)
   | slice0 hq0 =>
    rename_i a'
    have hl0 : l = 0 := by omega
    have hh0 : m = 0 := by omega
    subst hl0 hh0
    have hrun := ZfA (P := P) (w := w) (c' := 0) hρ hl hhh g1 g2 (Nat.le_refl 0) true
    have hr : (execOp ρ' o).run P w = .ok (.value (.slice a' 0 0)) w := by
     cases a' <;> simp [execOp, ho, Instr.sliceAt, Instr.slice, run_underlying hu, hx', hrun, sizeOf, typeInfo, hi', Result.andThen, Sem.run]
    refine Res.same he hr ?_
    simp only [Nat.sub_zero]
    exact .slice0 hq0
  ·cases h
 ·cases h
theorem Z0Y {o : Oper} {t : TypeId} {x : Operand} {lo hi : Option Operand} {m : Nat} {c' : List Value} (ho : o.op = .slice t x lo hi none) (hρ : ∀ x, VR ι (ρ x) (ρ' x)) (he : Emb P ι s.h.get w) (hf : Fresh ι s.n s'.n) (hob : ∀ p ∈ s'.ob, p.1 = p.2) (h : ZoR P ρ t x lo hi m c' s = some (v, s')) :
  Res P ((execOp ρ' o).run P w) s ι w v s' := by
 unfold ZoR at h
 split at h
 ·rename_i e k o' n c hu hx
  split at h
  ·rename_i ie cs e' q0 hie hk
   replace h := Zp h
   obtain ⟨hg, h⟩ := h
   simp only [Bool.and_eq_true] at hg
   obtain ⟨hg1, hg2⟩ := hg
   have hee : e = e' := Nat.eq_of_beq_eq_true hg1
   have ho' : o' = 0 := Nat.eq_of_beq_eq_true hg2
   subst hee ho'
   injection h with h
   injection h with h1 h2
   subst h1 h2
   have q1 := ZdT (hob (ZcI ρ 0 lo 0, true) (by simp [St.told]))
   have q2 := ZdT (hob (ZcI ρ n hi m, true) (by simp [St.told]))
   have q00 := Zac.1 (hob (dP (cutP q0 c (m ≤ c ∧ 0 < ie.size ∧ c * ie.size ≤ cs.length ∧ cs.take (m * ie.size) = c')), true) (by simp [St.told]))
   have q01 : (q0 = true → 0 < c) ∧ (m ≤ c ∧ 0 < ie.size ∧ c * ie.size ≤ cs.length ∧ cs.take (m * ie.size) = c') := by
    cases q0 with
    | false => exact ⟨fun h => (by cases h), q00⟩
    | true => exact ⟨fun _ => q00.1, q00.2⟩
   obtain ⟨qq, q3, q4, q5, q6⟩ := q01
   have h4 : ZfU P ρ t x lo hi s = some (.slice (some ⟨k, 0 + 0 * ie.size, none⟩) (m - 0) (c - 0), s) := by
    unfold ZfU
    rw [hu, hx]
    have : Nat.blt 0 ie.size = true := by rw [Nat.blt_eq]; exact q4
    simp only [hie, q1, q2, this, Nat.ble_eq_true_of_le q3, Nat.ble_eq_true_of_le (Nat.zero_le m), Bool.and_self, cond_true]
   obtain ⟨_, nx, w1, ι1, v1, a1, a2, a3, a4, a5⟩ := ZlZ ho hρ he h4
   rw [Nat.zero_mul, Nat.add_zero, Nat.sub_zero, Nat.sub_zero] at a5
   have hfr : s.n < far := by have := hf.1; exact Nat.lt_of_lt_of_le (Nat.lt_succ_self _) this
   have hn : ι1 s.n = none := by
    cases hi1 : ι1 s.n with
    | none => rfl
    | some c =>
     rcases a4 s.n (by rw [hi1]; simp) with h' | ⟨h5, h6⟩ | h5
     ·exact absurd (hf.2 s.n (Nat.le_refl _) (Nat.lt_succ_self _)) h'
     ·omega
     ·omega
   obtain ⟨bk, hbk, hdis⟩ := a3.emb.obj k cs e _ hk
   have hqc : Zag (some (.cells cs e q0)) bk = true := by
    rcases hdis with ⟨z1, z2, z3⟩ | ⟨hqc, _⟩
    ·have := qq z1
     subst z2
     have h9 : 0 < c * ie.size := Nat.mul_pos this q4
     simp only [List.length_nil] at q5
     omega
    ·exact hqc
   obtain ⟨hqc', C, hB, hC, hQ⟩ : Zag (some (.cells cs e q0)) bk = true ∧ ∃ C, Cel w1.heap[bk.1]? C e ∧ CR ι1 cs C ∧ ∀ i, P.info? e = some i → bk.2 * i.size ≤ C.size := by
    rcases hdis with ⟨z1, z2, z3⟩ | h
    ·have := qq z1
     subst z2
     have h9 : 0 < c * ie.size := Nat.mul_pos this q4
     simp only [List.length_nil] at q5
     omega
    ·exact h
   have hopen := Step.opened a3.emb hk hbk hqc
   have hst := Step.cut hopen.emb (n := s.n) (k0 := k) (b := bk) (b' := (bk.1, max bk.2 c)) hfr hn hbk (Zo : upd s.h.get k (some (.cells cs e)) k = _) rfl (fun i hi2 => by
    rw [hie] at hi2; injection hi2 with hi2; subst hi2
    rcases Nat.le_total bk.2 c with h' | h'
    ·exact .inr (by show max bk.2 c * _ ≤ _; rw [Nat.max_eq_right h']; exact q5)
    ·exact .inl (by show max bk.2 c ≤ _; rw [Nat.max_eq_left h']; exact Nat.le_refl _)) (m * ie.size)
   rw [q6] at hst
   replace hst := hopen.trans (hst.asQ q0)
   have eh : (((s.turn k c' e q0).told (ZcI ρ 0 lo 0)).told (ZcI ρ n hi m)).h.get = upd (upd (upd s.h.get k (some (.cells cs e))) k none) s.n (some (.cells c' e q0)) := by
    show ((s.h.set k none).set s.n _).get = _
    rw [Tr.get_set, Tr.get_set]
    funext j
    simp only [upd]
    split
    ·rfl
    ·split <;> rfl
   refine ⟨nx, w1, upd ι1 s.n (some (bk.1, max bk.2 c)), v1, a1, a2, (a3.trans (by rw [← eh] at hst; exact hst)), fun j hj => ?_, ?_⟩
   ·by_cases hjn : j = s.n
    ·subst hjn; exact .inr (.inl ⟨Nat.le_refl _, Nat.lt_succ_self _⟩)
    ·rw [Zh hjn] at hj
     rcases a4 j hj with h' | ⟨h5, h6⟩ | h5
     ·exact .inl h'
     ·omega
     ·exact .inr (.inr h5)
   ·cases a5 with
    | atom h => simp [Ev.atom] at h
    | slice hb hn1 hc hq =>
     rename_i b c1
     rw [hbk] at hb; injection hb with hb; subst hb
     refine .slice (b := (bk.1, max bk.2 c)) Zo (Nat.le_refl _) (by omega) (fun _ => .inr ?_)
     show c1 ≤ max bk.2 c
     rcases hq rfl with h' | h'
     ·exact Nat.le_trans h' (Nat.le_max_right _ _)
     ·exact Nat.le_trans h' (Nat.le_max_left _ _)
    | slice0 h => exact .slice0 h
  ·cases h
 ·cases h
theorem Z1U {t : TypeId} {l c : Operand} {n cp : Nat} {cs : List Value} (hob : ∀ p ∈ s'.ob, p.1 = p.2) (h : Zm4 P ρ t l c n cp cs s = some (v, s')) : ∃ s1, ZeW P ρ t l c s = some (v, s1) ∧ s'.h = s1.h ∧ s'.n = s1.n := by
 unfold Zm4 at h
 split at h
 ·rename_i e hu
  split at h
  ·rename_i i z hi hz
   obtain ⟨hg, h⟩ := Zp h
   simp only [Bool.and_eq_true] at hg
   injection h with h
   injection h with h1 h2
   subst h1 h2
   have q1 := Zfi (hob (Zdh (ρ l) n, true) (by simp [St.told]))
   have q2 := Zfi (hob (Zdh (ρ c) cp, true) (by simp [St.told]))
   obtain ⟨q3, q4, q5⟩ := Zac.1 (hob (dP (n ≤ cp ∧ cp ≤ 300000 ∧ rep z (cp * i.size) = cs), true) (by simp [St.told]))
   refine ⟨s.add cs e, ?_, rfl, rfl⟩
   unfold ZeW
   rw [hu, q1, q2]
   simp only [hi, hz, hg.1, hg.2, Nat.ble_eq_true_of_le q3, Nat.ble_eq_true_of_le q4, Bool.and_self, cond_true, q5]
  ·cases h
 ·cases h
theorem ZyI {v : Value} (h : atom v = true) : Zbw v = true := by
 cases v <;> simp_all [atom, Zbw]
theorem ZsU : ∀ {l : List Value}, Z5 atom l = true → Z5 Zbw l = true
 | [], _ => rfl
 | x :: l, h => by
  simp only [Z5, Bool.and_eq_true] at h ⊢
  exact ⟨ZyI h.1, ZsU h.2⟩
theorem Zjv {size : Nat} {z : List Value} {tx : TypeId} {y : Value} {p : Nat → List Value → Prop} {m : Nat} {l : List Value} (h : ZwJ P s z size tx y = some p) (hp : p m l) : Zfg P s z size tx y = some (m, l) := by
 unfold ZwJ at h
 split at h
 ·rename_i e k o n q hu
  split at h
  ·rename_i c t hk
   injection h with h
   subst h
   obtain ⟨rfl, h2, h3⟩ := hp
   simp [Zfg, hu, ZoP, hk, h2, h3]
  ·rename_i O hk
   injection h with h
   subst h
   obtain ⟨rfl, hp⟩ := hp
   rcases hp with ⟨h2, rfl⟩ | ⟨h1, h2, h3⟩
   ·simp [Zfg, hu, ZoP, hk, h2, Z5]
   ·have h4 := ZsU h3
    have h5 : Nat.beq (m * size) 0 = false := Zik h1
    simp only [Zfg, hu, ZoP, hk, h2, h3, h5, cond_false, cond_true, h4]
  ·cases h
 ·rename_i e id o z n q hu
  injection h with h
  subst h
  obtain ⟨rfl, hp⟩ := hp
  rcases hp with ⟨h2, rfl⟩ | ⟨c, h1, h2, rfl⟩
  ·simp [Zfg, hu, h2]
  ·have h5 : Nat.beq (m * size) 0 = false := Zik h1
   simp only [Zfg, hu, h2, h5, cond_false]
 ·rename_i ik k v hu
  injection h with h
  subst h
  obtain ⟨rfl, h1, h2, h3, rfl⟩ := hp
  have e1 : Nat.blt 0 m = true := by rw [Nat.blt_eq]; exact h1
  have e2 : Nat.blt 0 size = true := by rw [Nat.blt_eq]; exact h3
  simp only [Zfg, hu, e1, e2, Nat.ble_eq_true_of_le h2, Bool.and_self, cond_true]
 ·rename_i b hu
  obtain ⟨hg, h⟩ := Zp h
  injection h with h
  subst h
  obtain ⟨rfl, rfl⟩ := hp
  simp [Zfg, hu, hg]
 ·cases h
theorem Znt {ts tx : TypeId} {x y : Value} {m : Nat} {l c : List Value} (hob : ∀ p ∈ s'.ob, p.1 = p.2) (h : ZgU P s ts tx x y m l c = some (v, s')) : ∃ s1, Zdq P s ts tx x y = some (v, s1) ∧ s'.h = s1.h ∧ s'.n = s1.n := by
 unfold ZgU at h
 split at h
 ·rename_i e hu
  split at h
  ·rename_i i z hi hz
   split at h
   ·rename_i p hp
    obtain ⟨hg, h⟩ := Zp h
    simp only [Bool.and_eq_true] at hg
    split at h
    ·injection h with h
     injection h with h1 h2
     subst h1 h2
     obtain ⟨q1, q2, q3, q4⟩ := Zac.1 (hob (dP (p m l ∧ 0 < m ∧ m ≤ 100000 ∧ l = c), true) (by simp [St.told]))
     subst q4
     refine ⟨s.add l e, ?_, rfl, rfl⟩
     have hm : Nat.beq m 0 = false := Zik (by omega)
     unfold Zdq
     rw [hu]
     simp only [hi, hz, Zjv (z := z) hp q1, hg.1, hg.2, Nat.ble_eq_true_of_le q3, Bool.and_self, cond_true, hm, cond_false]
    ·rename_i k o n cp _
     obtain ⟨ho, h⟩ := Zp h
     split at h
     ·rename_i cs e' q0 hk
      obtain ⟨hee, h⟩ := Zp h
      injection h with h
      injection h with h1 h2
      subst h1 h2
      obtain ⟨q1, q2, q3, q4, q5, q6, q7⟩ := Zac.1 (hob (dP (p m l ∧ 0 < m ∧ m ≤ 100000 ∧ cp < n + m ∧ n ≤ 100000 ∧ n * i.size ≤ cs.length ∧ cs.take (n * i.size) ++ l = c), true) (by simp [St.told]))
      refine ⟨s.turn k c e q0, ?_, rfl, rfl⟩
      have hm : Nat.beq m 0 = false := Zik (by omega)
      have hc : Nat.ble (n + m) cp = false := by
       cases hb : Nat.ble (n + m) cp with
       | false => rfl
       | true => have := Nat.le_of_ble_eq_true hb; omega
      have htk : ZO (n * i.size) cs = some (cs.take (n * i.size)) := by
       have : ∀ (m : Nat) (l : List Value), m ≤ l.length → ZO m l = some (l.take m) := by
        intro m
        induction m with
        | zero => intro l _; simp [ZO]
        | succ m ih =>
         intro l hl
         cases l with
         | nil => simp at hl
         | cons x l =>
          simp only [ZO]
          rw [ih l (by simpa using hl)]
          rfl
       exact this _ _ q6
      unfold Zdq
      rw [hu]
      simp only [hi, hz, Zjv (z := z) hp q1, hg.1, hg.2, Nat.ble_eq_true_of_le q3, Nat.ble_eq_true_of_le q5, Bool.and_self, cond_true, hm, cond_false, hc, ho, hk, hee, htk, q7]
     ·cases h
    ·cases h
   ·cases h
  ·cases h
 ·cases h
theorem ZyJ {ts tx : TypeId} {x y : Value} {m : Nat} {l c : List Value} (hob : ∀ p ∈ s'.ob, p.1 = p.2) (h : Zk3 P s ts tx x y m l c = some (v, s')) : ∃ s1, Zdq P s ts tx x y = some (v, s1) ∧ s'.h = s1.h ∧ s'.n = s1.n := by
 unfold Zk3 at h
 split at h
 ·rename_i e hu
  split at h
  ·rename_i i z hi hz
   split at h
   ·rename_i p hp
    obtain ⟨hg, h⟩ := Zp h
    simp only [Bool.and_eq_true] at hg
    split at h
    ·rename_i k o n cp _
     split at h
     ·rename_i cs e' hk
      injection h with h
      injection h with h1 h2
      subst h1 h2
      obtain ⟨⟨q1, q8⟩, q2, q3, q4, q5, q6⟩ := Zac.1 (hob (dP ((p m l ∧ Z5 Zbw l = true) ∧ 0 < m ∧ m ≤ 100000 ∧ n + m ≤ cp ∧ (o + n * i.size + l.length ≤ cs.length ∧ Zgr cs (o + n * i.size) l = c)), true) (by simp [St.told]))
      refine ⟨s.putK k c e', ?_, rfl, rfl⟩
      have hm : Nat.beq m 0 = false := Zik (by omega)
      have hwr : Zdg s k (o + n * i.size) l = some (s.putK k c e') := by
       unfold Zdg
       rw [hk]
       simp only [q8, Nat.ble_eq_true_of_le q5, Bool.not_false, Bool.true_or, Bool.and_self, cond_true, q6]
      unfold Zdq
      rw [hu]
      simp only [hi, hz, Zjv (z := z) hp q1, hg.1, hg.2, Nat.ble_eq_true_of_le q3, Nat.ble_eq_true_of_le q4, Bool.and_self, cond_true, hm, cond_false, hwr]
     ·cases h
    ·cases h
   ·cases h
  ·cases h
 ·cases h
theorem ZyK {ts tx : TypeId} {x y : Value} (hob : ∀ p ∈ s'.ob, p.1 = p.2) (h : Zk4 P s ts tx x y = some (v, s')) : ∃ s1, Zdq P s ts tx x y = some (v, s1) ∧ s'.h = s1.h ∧ s'.n = s1.n := by
 unfold Zk4 at h
 split at h
 ·rename_i e hu
  split at h
  ·rename_i i z hi hz
   split at h
   ·rename_i p hp
    obtain ⟨hg, h⟩ := Zp h
    simp only [Bool.and_eq_true] at hg
    split at h
    ·injection h with h
     injection h with h1 h2
     subst h1 h2
     have q1 := Zac.1 (hob (dP (p 0 []), true) (by simp [St.told]))
     refine ⟨s, ?_, rfl, rfl⟩
     unfold Zdq
     rw [hu]
     simp only [hi, hz, Zjv (z := z) hp q1, hg.1, hg.2, show Nat.ble 0 100000 = true from rfl, show Nat.beq 0 0 = true from rfl, Bool.and_self, cond_true]
    ·injection h with h
     injection h with h1 h2
     subst h1 h2
     have q1 := Zac.1 (hob (dP (p 0 []), true) (by simp [St.told]))
     refine ⟨s, ?_, rfl, rfl⟩
     unfold Zdq
     rw [hu]
     simp only [hi, hz, Zjv (z := z) hp q1, hg.1, hg.2, show Nat.ble 0 100000 = true from rfl, show Nat.beq 0 0 = true from rfl, Bool.and_self, cond_true]
    ·cases h
   ·cases h
  ·cases h
 ·cases h
end
set_option linter.unusedVariables false
theorem Zvm {β : Type} : ∀ (m : Nat) (l : List β), m ≤ l.length → ZO m l = some (l.take m)
 | 0, l, _ => by simp [ZO]
 | m + 1, [], h => by simp at h
 | m + 1, x :: l, h => by simp only [ZO]; rw [Zvm m l (by simpa using h)]; rfl
theorem Znu {c c' : List Cell} {o : Nat} (h : Zay (code c) o c'.length = some c') : c' = (c.drop o).take c'.length ∧ c'.length ≤ (c.drop o).length := by
 unfold Zay at h
 rw [Zdw] at h
 exact ZeB h
theorem Zxa {c c' : List Cell} {o : Nat} (h : c' = (c.drop o).take c'.length) (hl : c'.length ≤ (c.drop o).length) : Zay (code c) o c'.length = some c' := by
 unfold Zay
 rw [Zdw]
 show ZO c'.length (c.drop o) = some c'
 rw [Zvm _ _ hl, ← h]
theorem Z1V {c c1 c2 : List Cell} {o o2 : Nat} (h : Zay (code c) o c1.length = some c1) (h2 : Zay (code c1) o2 c2.length = some c2) : Zay (code c) (o + o2) c2.length = some c2 := by
 obtain ⟨a1, a2⟩ := Znu h
 obtain ⟨b1, b2⟩ := Znu h2
 rw [List.length_drop] at a2 b2
 have e2 : c1.drop o2 = ((c.drop o).drop o2).take (c1.length - o2) := by rw [← List.drop_take, ← a1]
 refine Zxa ?_ (by rw [List.length_drop]; omega)
 rw [← List.drop_drop]
 conv => lhs; rw [b1, e2, List.take_take, Nat.min_eq_left b2]
noncomputable def ιFa (ι : Ren) (b0 : Nat) (c : List Cell) : Ren := fun k => @ite _ (ι k ≠ none) (Classical.propDecidable _) (ι k) (@dite _ (∃ o c', k = Zai b0 o (code c') ∧ Zay (code c) o c'.length = some c') (Classical.propDecidable _) (fun _ => some (b0, 0)) (fun _ => none))
theorem ιFa_old {ι : Ren} {b0 k : Nat} {c : List Cell} (h : ι k ≠ none) : ιFa ι b0 c k = ι k := by unfold ιFa; rw [if_pos h]
theorem ιFa_new {ι : Ren} {b0 o : Nat} {c c' : List Cell} (hn : ι (Zai b0 o (code c')) = none) (h : Zay (code c) o c'.length = some c') : ιFa ι b0 c (Zai b0 o (code c')) = some (b0, 0) := by
 unfold ιFa
 rw [if_neg (fun q => q hn), dif_pos ⟨o, c', rfl, h⟩]
theorem ιFa_inv {ι : Ren} {b0 k : Nat} {c : List Cell} {q : Nat × Nat} (h : ιFa ι b0 c k = some q) : ι k = some q ∨ (ι k = none ∧ q = (b0, 0) ∧ ∃ o c', k = Zai b0 o (code c') ∧ Zay (code c) o c'.length = some c') := by
 by_cases hk : ι k ≠ none
 ·rw [ιFa_old hk] at h; exact .inl h
 ·have hk' : ι k = none := Classical.not_not.1 hk
  unfold ιFa at h
  rw [if_neg hk] at h
  by_cases hd : ∃ o c', k = Zai b0 o (code c') ∧ Zay (code c) o c'.length = some c'
  ·rw [dif_pos hd] at h; injection h with h; exact .inr ⟨hk', h.symm, hd⟩
  ·rw [dif_neg hd] at h; cases h
theorem Step.frz {P : Program} {ι : Ren} {h : AH} {w : World} (e : Emb P ι h w) {k0 : Nat} {c : List Cell} {t : TypeId} (hk0 : h k0 = some (.cells (Zw c) t)) :
  ∃ ι', Step P ι h w ι' (upd h k0 none) w ∧ (∀ b, ι k0 = some b → ∃ q, ι' (Zai b.1 0 (code c)) = some q) ∧ ∀ k, ι' k ≠ none → ι k ≠ none ∨ far ≤ k := by
 obtain ⟨b0, C, q1, q2, q3, q4⟩ := e.objF k0 (Zw c) t hk0
 obtain ⟨fr0, q20, _⟩ := q2
 have hC0 : ∀ d, Zag (h k0) d = true := fun d => by rw [hk0]; rfl
 have hno : ∀ base id, ι (Zai b0.1 base id) = none := fun base id => by
  cases hm : ι (Zai b0.1 base id) with
  | none => rfl
  | some q => exact absurd rfl ((e.mks _ _ _ _ hm).2.2 _ _ (hC0 _) q1)
 have hx : ∀ k b, ι k = some b → ιFa ι b0.1 c k = some b := fun k b hk => by
  rw [ιFa_old (by rw [hk]; simp)]; exact hk
 have hself : Zay (code c) 0 c.length = some c := Zxa (by simp) (by simp)
 have liveI : ∀ k b, (h k).isSome → ιFa ι b0.1 c k = some b → ι k = some b := fun k b hk hb => by
  obtain ⟨d, hd⟩ := e.live hk
  have := hx k d hd
  rw [hb] at this
  injection this with this
  subst this
  exact hd
 refine ⟨ιFa ι b0.1 c, ⟨hx, ⟨fun k c' t' q' hk => ?_, fun {m} k O hk => ?_, fun k k' b b' h1 h2 h3 h4 h5 => ?_, fun k b hb => ?_, fun b base id q hq => ?_, e.tabs hx⟩, rfl, rfl, rfl, Nat.le_refl _, fun _ _ _ => rfl, fun k b h1 h2 _ => ?_, fun k b h1 _ => (ZiQ h1).2, fun k b h1 _ => (ZeA h1).2⟩, fun b hb => ?_, fun k hk => ?_⟩
 ·obtain ⟨n1, _⟩ := ZmD (h := h) (k0 := k0) (k := k) (by rw [hk]; rfl)
  rw [Zh n1] at hk
  obtain ⟨b, r1, hz⟩ := e.obj k c' t' q' hk
  exact ⟨b, hx k b r1, hz.imp id fun ⟨q0, D, r2, r3, r4⟩ => ⟨q0, D, r2, r3.ext hx, r4⟩⟩
 ·obtain ⟨n1, _⟩ := ZmD (h := h) (k0 := k0) (k := k) (by rw [hk]; rfl)
  rw [Zh n1] at hk
  obtain ⟨b, r1, r2⟩ := e.ro k O hk
  exact ⟨b, hx k b r1, r2⟩
 ·obtain ⟨n1, g1⟩ := ZeA h1
  obtain ⟨n2, g2⟩ := ZiQ h2
  exact e.inj k k' b b' g1 g2 (liveI k b (ZbF g1) h3) (liveI k' b' (ZcJ g2) h4) h5
 ·rcases ιFa_inv hb with h2 | ⟨_, rfl, _⟩
  ·exact e.lt k b h2
  ·exact (show b0.1 < _ from e.lt _ _ q1)
 ·rcases ιFa_inv hq with h2 | ⟨_, rfl, o, c', hk, hg⟩
  ·obtain ⟨m1, m2, m3⟩ := e.mks b base id q h2
   refine ⟨m1, ⟨m2.1.ext hx rfl, fun o c' hc => hx _ _ (m2.2 o c' hc)⟩, fun k d hk hd2 => ?_⟩
   obtain ⟨n1, g1⟩ := ZeA hk
   exact m3 k d g1 (liveI k d (ZbF g1) hd2)
  ·obtain ⟨rfl, rfl, rfl⟩ := ZrI hk
   obtain ⟨a1, a2⟩ := Znu hg
   rw [List.length_drop] at a2
   have hsz : (Zw c).length = c.length := by simp [Zw]
   refine ⟨rfl, ⟨⟨c', C, t, fr0, Zdw c', q20, fun hp => by have := q3.1; omega, fun i x y hx1 hy => ?_, fun x hx1 hb => by
    obtain ⟨q, hq⟩ := e.tb x hx1
    exact absurd hb.symm ((e.mks _ _ _ _ hq).2.2 _ _ (hC0 _) q1)⟩, fun o2 c2 hc2 => ιFa_new (hno _ _) (Z1V hg hc2)⟩, fun k d hk hd2 hb => ?_⟩
   ·have hi : i < c'.length := by
     have := (List.getElem?_eq_some_iff.1 hx1).1
     simpa [Zw] using this
    have hx2 : (Zw c)[base + i]? = some x := by
     unfold Zw at hx1 ⊢
     rw [List.getElem?_map] at hx1 ⊢
     rw [a1, List.getElem?_take_of_lt hi, List.getElem?_drop] at hx1
     exact hx1
    exact (q3.2 (base + i) x y hx2 hy).ext hx
   ·obtain ⟨n1, g1⟩ := ZeA hk
    have := e.inj k k0 d b0 g1 (Zd8 (hC0 _)) (liveI k d (ZbF g1) hd2) q1 hb
    exact n1 this
 ·rcases ιFa_inv h2 with h3 | ⟨_, rfl, _⟩
  ·rw [h1] at h3; cases h3
  ·exact .inr ⟨k0, _, hC0 _, q1, rfl⟩
 ·rw [q1] at hb
  injection hb with hb
  subst hb
  exact ⟨_, ιFa_new (hno _ _) hself⟩
 ·by_cases hn : ι k = none
  ·cases hf : ιFa ι b0.1 c k with
   | none => exact absurd hf hk
   | some q =>
    rcases ιFa_inv hf with h3 | ⟨_, _, o, c', rfl, _⟩
    ·rw [hn] at h3; cases h3
    ·exact .inr (Zf5 _ _ _).1
  ·exact .inl hn
theorem ZsV {ι ι' : Ren} (hx : ∀ k b, ι k = some b → ι' k = some b) {k0 : Nat} {c : List Cell} (hm : ∀ b, ι k0 = some b → ∃ q, ι' (Zai b.1 0 (code c)) = some q) {j n m : Nat} {v' : Value} (h : VR ι (.slice (some ⟨j, 0, none⟩) n m) v') : VR ι' (bif Nat.beq j k0 then .slice (some ⟨code c, 0, some 0⟩) n m else .slice (some ⟨j, 0, none⟩) n m) v' := by
 cases hb : Nat.beq j k0 with
 | false => exact h.ext hx
 | true =>
  cases h with
  | atom h => simp [Ev.atom] at h
  | slice h1 h2 h3 h4 =>
   have e := Nat.eq_of_beq_eq_true hb
   subst e
   obtain ⟨q, hq⟩ := hm _ h1
   exact VR.mslice (base := 0) (o := 0) (z := 0) hq h2 h3
  | slice0 h => exact .slice0 h
theorem Zuh {ι ι' : Ren} (hx : ∀ k b, ι k = some b → ι' k = some b) {k0 : Nat} {c : List Cell} (hm : ∀ b, ι k0 = some b → ∃ q, ι' (Zai b.1 0 (code c)) = some q) (d : Nat) : ∀ {v v' : Value}, VR ι v v' → VR ι' (ZoQ k0 (code c) d v) v' := by
 induction d with
 | zero =>
  intro v v' h
  cases v with
  | slice p n m =>
   cases p with
   | none => exact h.ext hx
   | some a =>
    obtain ⟨j, o, z⟩ := a
    cases o with
    | succ o => exact h.ext hx
    | zero =>
     cases z with
     | some z => exact h.ext hx
     | none => exact ZsV hx hm h
  | _ => exact h.ext hx
 | succ d ih =>
  intro v v' h
  cases v with
  | slice p n m =>
   cases p with
   | none => exact h.ext hx
   | some a =>
    obtain ⟨j, o, z⟩ := a
    cases o with
    | succ o => exact h.ext hx
    | zero =>
     cases z with
     | some z => exact h.ext hx
     | none => exact ZsV hx hm h
  | agg cs =>
   obtain ⟨a', rfl, hs, h1⟩ := h.agg_inv
   show VR ι' (.agg ((cs.toList.map (ZoQ k0 (code c) d)).toArray)) _
   refine .agg (by simpa using hs) fun i x y hx1 hy => ?_
   simp only [List.getElem?_toArray, List.getElem?_map] at hx1
   cases hc : cs.toList[i]? with
   | none => rw [hc] at hx1; cases hx1
   | some z =>
    rw [hc] at hx1
    injection hx1 with hx1
    subst hx1
    exact ih (h1 i z y (by simpa using hc) hy)
  | tuple cs =>
   cases h with
   | atom h => simp [Ev.atom] at h
   | tuple hs h1 =>
    show VR ι' (.tuple ((cs.toList.map (ZoQ k0 (code c) d)).toArray)) _
    refine .tuple (by simpa using hs) fun i x y hx1 hy => ?_
    simp only [List.getElem?_toArray, List.getElem?_map] at hx1
    cases hc : cs.toList[i]? with
    | none => rw [hc] at hx1; cases hx1
    | some z =>
     rw [hc] at hx1
     injection hx1 with hx1
     subst hx1
     exact ih (h1 i z y (by simpa using hc) hy)
  | _ => exact h.ext hx
theorem Zxb {P : Program} {ι : Ren} {w : World} {ρ ρ' : Operand → Value} {s s' : St} {v : Value} {o : Oper} {t : TypeId} {a x : Operand} {k : Nat} {cs : List Cell} {c' : List Value} (ho : o.op = .store t a x) (hρ : ∀ x, VR ι (ρ x) (ρ' x)) (he : Emb P ι s.h.get w) (hob : ∀ p ∈ s'.ob, p.1 = p.2) (h : Zk2 P ρ t a x k cs c' s = some (v, s')) :
  Res P ((execOp ρ' o).run P w) s ι w v s' := by
 unfold Zk2 at h
 split at h
 ·rename_i cl e hk
  have hq : cl = Zw cs := by
   have h0 := h
   unfold ZhC at h0
   split at h0
   ·obtain ⟨_, h0⟩ := Zp h0
    split at h0
    ·obtain ⟨_, h0⟩ := Zp h0
     injection h0 with h0
     injection h0 with _ h0
     subst h0
     exact Zac.1 (hob (dP (cl = Zw cs), true) (by simp [St.told, St.putK]))
    ·cases h0
   ·cases h0
  subst hq
  obtain ⟨ι', hst, hm, hdm⟩ := Step.frz he hk
  obtain ⟨s2, h4, e3, e4⟩ := Zvl hob h
  have es : (((⟨s.h.set k none, s.n, k :: s.wr, s.orc, s.ob⟩ : St).told (dP (Zw cs = Zw cs))).h.get) = upd s.h.get k none := by
   show (s.h.set k none).get = _
   exact Tr.get_set ..
  obtain ⟨nx, w', ι2, v', r1, r2, r3, r4, r5⟩ := ZlY (ρ' := ρ') ho (fun y => Zuh hst.ext hm 2 (hρ y)) (s := (⟨s.h.set k none, s.n, k :: s.wr, s.orc, s.ob⟩ : St).told (dP (Zw cs = Zw cs))) (es ▸ hst.emb) h4
  rw [es] at r3
  refine ⟨nx, w', ι2, v', r1, r2, e3 ▸ hst.trans r3, fun j hj => ?_, r5⟩
  rcases r4 j hj with h5 | h5 | h5
  ·exact (hdm j h5).imp id .inr
  ·exact .inr (.inl (by rw [e4]; exact h5))
  ·exact .inr (.inr h5)
 ·cases h
theorem Zvn {ι : Ren} {n m : Nat} {v' : Value} (d : Nat) (h : VR ι (.slice none n m) v') : VR ι (nlV d (.slice none n m)) v' := by
 cases n with
 | succ n => cases d <;> exact h
 | zero =>
  cases m with
  | succ m => cases d <;> exact h
  | zero =>
   have e := h.eq_of_atom rfl
   subst e
   cases d <;> exact .slice0 fun _ => rfl
theorem Z0Z {ι : Ren} (d : Nat) : ∀ {v v' : Value}, VR ι v v' → VR ι (nlV d v) v' := by
 induction d with
 | zero =>
  intro v v' h
  cases v with
  | slice p n m =>
   cases p with
   | none => exact Zvn 0 h
   | some a => exact h
  | _ => exact h
 | succ d ih =>
  intro v v' h
  cases v with
  | slice p n m =>
   cases p with
   | none => exact Zvn (d + 1) h
   | some a => exact h
  | agg cs =>
   obtain ⟨a', rfl, hs, h1⟩ := h.agg_inv
   show VR ι (.agg ((cs.toList.map (nlV d)).toArray)) _
   refine .agg (by simpa using hs) fun i x y hx1 hy => ?_
   simp only [List.getElem?_toArray, List.getElem?_map] at hx1
   cases hc : cs.toList[i]? with
   | none => rw [hc] at hx1; cases hx1
   | some z =>
    rw [hc] at hx1
    injection hx1 with hx1
    subst hx1
    exact ih (h1 i z y (by simpa using hc) hy)
  | tuple cs =>
   cases h with
   | atom h => simp [Ev.atom] at h
   | tuple hs h1 =>
    show VR ι (.tuple ((cs.toList.map (nlV d)).toArray)) _
    refine .tuple (by simpa using hs) fun i x y hx1 hy => ?_
    simp only [List.getElem?_toArray, List.getElem?_map] at hx1
    cases hc : cs.toList[i]? with
    | none => rw [hc] at hx1; cases hx1
    | some z =>
     rw [hc] at hx1
     injection hx1 with hx1
     subst hx1
     exact ih (h1 i z y (by simpa using hc) hy)
  | _ => exact h
theorem Step.mapC {P : Program} {ι : Ren} {h : AH} {w : World} (e : Emb P ι h w) {k : Nat} {c : List Value} {t : TypeId} {q : Bool} (hk : h k = some (.cells c t q)) {g : Value → Value} (hg : ∀ {x y : Value}, VR ι x y → VR ι (g x) y) : Step P ι h w ι (upd h k (some (.cells (c.map g) t q))) w := by
 have hC : ∀ j d, Zag (upd h k (some (.cells (c.map g) t q)) j) d = Zag (h j) d := fun j d => by
  by_cases ej : j = k
  ·subst ej; rw [Zo, hk]; cases c <;> rfl
  ·rw [Zh ej]
 have hS : ∀ j d, Za3 (upd h k (some (.cells (c.map g) t q)) j) d = Za3 (h j) d := fun j d => by
  by_cases ej : j = k
  ·subst ej; rw [Zo, hk]; cases c <;> rfl
  ·rw [Zh ej]
 refine ⟨fun _ _ x => x, ⟨fun j c1 t1 q1 hj => ?_, fun {m} j O hj => ?_, fun j j' b b' h1 h2 h3 h4 h5 => e.inj j j' b b' (hC j b ▸ h1) (hS j' b' ▸ h2) h3 h4 h5, e.lt, fun b base id q hq => ?_, e.tb⟩, rfl, rfl, rfl, Nat.le_refl _, fun _ _ _ => rfl, fun j b h1 h2 _ => ?_, fun j b h1 _ => hS j b ▸ h1, fun j b h1 _ => hC j b ▸ h1⟩
 ·by_cases ej : j = k
  ·subst ej
   rw [Zo] at hj
   injection hj with hj
   injection hj with e1 e2 e3
   subst e1 e2 e3
   obtain ⟨b, hb, hz⟩ := e.obj j c t q hk
   refine ⟨b, hb, hz.imp (fun ⟨z1, z2, z3⟩ => ⟨z1, by rw [z2]; rfl, z3⟩) fun ⟨z1, D, z2, z3, z4⟩ => ⟨?_, D, z2, ⟨by rw [List.length_map]; exact z3.1, fun i x y hx hy => ?_⟩, z4⟩⟩
   ·have := hC j b
    rw [Zo, hk] at this
    rw [this]; exact z1
   ·rw [List.getElem?_map] at hx
    cases hc : c[i]? with
    | none => rw [hc] at hx; cases hx
    | some z =>
     rw [hc] at hx
     injection hx with hx
     subst hx
     exact hg (z3.2 i z y hc hy)
  ·rw [Zh ej] at hj
   exact e.obj j c1 t1 q1 hj
 ·by_cases ej : j = k
  ·subst ej
   rw [Zo] at hj
   injection hj with hj
   cases hj
  ·rw [Zh ej] at hj
   exact e.ro j O hj
 ·obtain ⟨m1, m2, m3⟩ := e.mks b base id q hq
  exact ⟨m1, m2, fun j d hj hd => m3 j d (hC j d ▸ hj) hd⟩
 ·rw [h1] at h2; cases h2
section
variable {P : Program} {ι : Ren} {w : World} {ρ ρ' : Operand → Value} {s s' : St} {v : Value}

def ZeC : Value → Bool
 | .pointer _ | .slice .. | .nilFunc | .func .. => true
 | _ => false
theorem ZiS {x x' : Value} (h : VR ι x x') (hk : ZeC x = true) : ZeC x' = true := by
 cases h <;> first | exact hk | rfl | (simp [ZeC] at hk)
theorem Z0h {d : Option TypeDesc} {x y : Value} {q : Bool} (h : ZsM d x y = some q) : ZeC x = true ∧ ZeC y = true := by
 unfold ZsM at h
 split at h <;> first | exact ⟨rfl, rfl⟩ | cases h
theorem Zpa {o : Option AObj} (h : ZiP o = true) : ∃ c t, o = some (.cells c t) ∧ t ≠ u8T := by
 cases o with
 | none => cases h
 | some o => cases o with
  | cells c t q => cases q with
   | false => exact ⟨c, t, rfl, fun e => by subst e; simp [ZiP] at h⟩
   | true => cases h
  | _ => cases h
theorem Zvo {h : Tr AObj} {d : Option TypeDesc} {x y : Value} {q : Bool} (e : Z0c P h d x y = some q) :
  ∃ el k o k' o' i, d = some (.pointer el) ∧ x = .pointer (some ⟨k, o, none⟩) ∧ y = .pointer (some ⟨k', o', none⟩) ∧ P.info? el = some i ∧ Nat.beq i.size 0 = false ∧ Nat.beq k k' = false ∧ ZiP (h.get k) = true ∧ ZiP (h.get k') = true ∧ q = false := by
 unfold Z0c at e
 split at e
 ·split at e
  ·rename_i hi
   obtain ⟨hc, e⟩ := Zp e
   simp only [Bool.and_eq_true, Bool.not_eq_true'] at hc
   injection e with e
   exact ⟨_, _, _, _, _, _, rfl, rfl, rfl, hi, hc.1, hc.2.1, hc.2.2.1, hc.2.2.2, e.symm⟩
  ·cases e
 ·cases e
theorem Z1a {α : Type} {b : Bool} {x y : Option α} {z : α} (h : (bif b then x else y) = some z) : (b = true ∧ x = some z) ∨ (b = false ∧ y = some z) := by
 cases b with
 | true => exact .inl ⟨rfl, h⟩
 | false => exact .inr ⟨rfl, h⟩
theorem Zrl {d : Option TypeDesc} {x y : Value} (e : Zue P d x y = true) : ∃ el k o i, d = some (.pointer el) ∧ x = .pointer (some ⟨k, o, none⟩) ∧ y = .pointer (some ⟨k, o, none⟩) ∧ P.info? el = some i := by
 unfold Zue at e
 split at e
 ·split at e
  ·rename_i hi
   simp only [Bool.and_eq_true] at e
   obtain ⟨e1, e2⟩ := e
   obtain rfl := Nat.eq_of_beq_eq_true e1
   obtain rfl := Nat.eq_of_beq_eq_true e2
   exact ⟨_, _, _, _, rfl, rfl, rfl, hi⟩
  ·cases e
 ·cases e
theorem Zrm {h : Tr AObj} {d : Option TypeDesc} {x y : Value} {q : Bool} (e : ZoS P h d x y = some q) : ZeC x = true ∧ ZeC y = true := by
 unfold ZoS at e
 split at e
 ·rename_i hq; exact Z0h hq
 ·rcases Z1a e with ⟨hb, _⟩ | ⟨_, e⟩
  ·obtain ⟨_, _, _, _, _, rfl, rfl, _⟩ := Zrl hb
   exact ⟨rfl, rfl⟩
  obtain ⟨_, _, _, _, _, _, _, rfl, rfl, _⟩ := Zvo e
  exact ⟨rfl, rfl⟩
theorem Zpb {s : St} {t : TypeId} {x y x' y' : Value} {q : Bool} (he : Emb P ι s.h.get w) (hx : VR ι x x') (hy : VR ι y y') (e : ZoS P s.h (P.underlying t) x y = some q) : (Op.equal t x' y').run P w = .ok q w := by
 unfold ZoS at e
 split at e
 ·rename_i hq
  injection e with e
  subst e
  exact ZyH hx hy hq
 ·rcases Z1a e with ⟨hb, e⟩ | ⟨_, e⟩
  ·injection e with e
   subst e
   obtain ⟨el, k, o, i, hu, rfl, rfl, hi⟩ := Zrl hb
   obtain ⟨b, hb1, rfl⟩ := hx.ptr_inv
   obtain ⟨b', hb2, rfl⟩ := hy.ptr_inv
   rw [hb1] at hb2; injection hb2 with hb2; subst hb2
   have key : ∀ d : Nat, (Op.equalIn (d + 1) t (.pointer (some ⟨b.1, o, none⟩)) (.pointer (some ⟨b.1, o, none⟩))).run P w = .ok true w := fun d => by
    simp [Op.equalIn, run_underlying hu, sizeOf, typeInfo, hi, run_sameAddr_same]
   exact key _
  obtain ⟨el, k, o, k', o', i, hu, rfl, rfl, hi, hsz, hk, h1, h2, rfl⟩ := Zvo e
  have ne : k ≠ k' := fun q => by subst q; rw [ZkF rfl] at hk; cases hk
  have hsz : i.size ≠ 0 := fun q => by rw [q] at hsz; cases hsz
  obtain ⟨c1, t1, g1, n1⟩ := Zpa h1
  obtain ⟨c2, t2, g2, n2⟩ := Zpa h2
  obtain ⟨b, C, hb, hB, _, _⟩ := he.objF k c1 t1 g1
  obtain ⟨b', C', hb', hB', _, _⟩ := he.objF k' c2 t2 g2
  have hne : b.1 ≠ b'.1 := fun q => ne (he.inj k k' b b' (by rw [g1]; rfl) (by rw [g2]; rfl) hb hb' q)
  cases hx with
  | atom h => simp [Ev.atom] at h
  | ptr hc =>
   rw [hb] at hc; injection hc with hc; subst hc
   cases hy with
   | atom h => simp [Ev.atom] at h
   | ptr hc' =>
    rw [hb'] at hc'; injection hc' with hc'; subst hc'
    have key : ∀ d : Nat, (Op.equalIn (d + 1) t (.pointer (some ⟨b.1, o, none⟩)) (.pointer (some ⟨b'.1, o', none⟩))).run P w = .ok false w := fun d => by
     have hab : (⟨b.1, o, none⟩ : Addr) ≠ ⟨b'.1, o', none⟩ := fun q => hne (congrArg Addr.block q)
     simp [Op.equalIn, run_underlying hu, sizeOf, typeInfo, hi, hsz, run_sameAddr_other w hab (hB.zero n1) (hB'.zero n2)]
    exact key _
theorem ZsW {op : BinOp} {t : TypeId} {x y : Operand} {a b : Value} (ha : ZeC a = true) : (eqGuard op t x y a b).run P w = .ok () w := by
 unfold eqGuard
 cases a <;> first | (simp [ZeC] at ha; done) | skip
 all_goals cases op <;> rfl
theorem Z1b {t : TypeId} {a b : Value} {q : Bool} (ha : ZeC a = true) (hb : ZeC b = true) (h : (Op.equal t a b).run P w = .ok q w) : (binOp .eql t a b).run P w = .ok (.bool q) w := by
 have : binOp .eql t a b = (do pure (.bool (← Op.equal t a b))) := by
  cases a <;> first | (simp [ZeC] at ha; done) | skip
  all_goals cases b <;> first | (simp [ZeC] at hb; done) | rfl
 rw [this]
 simp [h, Result.andThen, Sem.run]
theorem Z1c {t : TypeId} {a b : Value} {q : Bool} (ha : ZeC a = true) (hb : ZeC b = true) (h : (Op.equal t a b).run P w = .ok q w) : (binOp .neq t a b).run P w = .ok (.bool (!q)) w := by
 have : binOp .neq t a b = (do pure (.bool (!(← Op.equal t a b)))) := by
  cases a <;> first | (simp [ZeC] at ha; done) | skip
  all_goals cases b <;> first | (simp [ZeC] at hb; done) | rfl
 rw [this]
 simp [h, Result.andThen, Sem.run]
def Zkv (d : Nat) (e : TypeId) (n : Nat) (xs ys : Array Value) : List Nat → Sem Bool
 | [] => pure true
 | i :: l => do
   let a ← part e xs (i * n)
   let b ← part e ys (i * n)
   let r ← Op.equalIn d e a b
   if (!r) = true then pure false else Zkv d e n xs ys l
theorem ZqB (w : World) (d : Nat) (t e : TypeId) (len : Nat) (i : TypeInfo) (xs ys : Array Value) (ht : P.underlying t = some (.array len e)) (hi : P.info? e = some i) :
  (Op.equalIn (d + 1) t (.agg xs) (.agg ys)).run P w = (Zkv d e i.size xs ys (List.range' 0 len)).run P w := by
 have hs : (sizeOf e : Sem Nat).run P w = .ok i.size w := by
  simp [sizeOf, typeInfo, hi, Result.andThen]
 simp only [Op.equalIn, Sem.run_bind, run_underlying ht, Result.andThen_ok, hs]
 rw [Std.Legacy.Range.forIn_eq_forIn_range']
 simp only [Std.Legacy.Range.size]
 have e1 : (len - 0 + 1 - 1) / 1 = len := by simp
 rw [e1]
 generalize List.range' 0 len = fs
 induction fs generalizing w with
 | nil => simp [Zkv]
 | cons f fs ih =>
  simp only [List.forIn_cons, Zkv, Sem.run_bind, Sem.run_ite]
  generalize (part e xs (f * i.size)).run P w = r1
  cases r1 with
  | ok a w1 =>
   simp only [Result.andThen_ok]
   generalize (part e ys (f * i.size)).run P w1 = r2
   cases r2 with
   | ok b w2 =>
    simp only [Result.andThen_ok]
    generalize (Op.equalIn d e a b).run P w2 = r3
    cases r3 with
    | ok r w3 =>
     cases r
     ·simp only [Result.andThen_ok, Bool.not_false, if_true, Sem.run_pure]
     ·simp only [Result.andThen_ok, Bool.not_true, Bool.false_eq_true, if_false, Sem.run_pure]
      exact ih w3 (by simp [sizeOf, typeInfo, hi, Result.andThen])
    | halt x w3 => simp [Result.andThen]
   | halt x w2 => simp [Result.andThen]
  | halt x w1 => simp [Result.andThen]

def EqOk (P : Program) (ι : Ren) (w : World) (d : Nat) (g : TypeId → Value → Value → Option Bool) : Prop :=
 ∀ t x y x' y' q, VR ι x x' → VR ι y y' → g t x y = some q → (Op.equalIn d t x' y').run P w = .ok q w
theorem Zxc {d : Nat} {g : TypeId → Value → Value → Option Bool} (hg : EqOk P ι w d g) {xs ys xs' ys' : Array Value} (s1 : xs.size = xs'.size) (p1 : ∀ (i : Nat) x y, xs[i]? = some x → xs'[i]? = some y → VR ι x y) (s2 : ys.size = ys'.size) (p2 : ∀ (i : Nat) x y, ys[i]? = some x → ys'[i]? = some y → VR ι x y) :
  ∀ (fs : List Field) (r : Bool), ZwK P g xs ys fs = some r → (Op.eqFields d xs' ys' fs).run P w = .ok r w
 | [], r, h => by simp [ZwK] at h; subst h; rfl
 | f :: fs, r, h => by
  simp only [ZwK] at h
  obtain ⟨hn, h⟩ := (show ∀ {b : Bool} {x : Option Bool} {y : Bool}, (bif b then none else x) = some y → b = false ∧ x = some y from fun {b x y} h => by cases b <;> simp at h; exact ⟨rfl, h⟩) h
  have hname : f.name ≠ "_" := by simpa using hn
  split at h
  ·rename_i a b r' h1 h2 h3
   split at h
   ·rename_i q hq
    injection h with h
    subst h
    obtain ⟨a', e1, v1⟩ := Zfh (w := w) s1 p1 h1
    obtain ⟨b', e2, v2⟩ := Zfh (w := w) s2 p2 h2
    have e3 := hg _ _ _ _ _ _ v1 v2 hq
    have ih := Zxc hg s1 p1 s2 p2 fs r' h3
    simp only [Op.eqFields, hname, ne_eq, not_false_eq_true, if_true, Sem.run_bind, e1, e2, e3, Result.andThen_ok]
    cases q
    ·simp [Sem.run]
    ·simpa using ih
   ·cases h
  ·cases h
theorem Zxd {d : Nat} {g : Value → Value → Option Bool} {e : TypeId} {sz : Nat} (hg : ∀ x y x' y' q, VR ι x x' → VR ι y y' → g x y = some q → (Op.equalIn d e x' y').run P w = .ok q w) {xs ys xs' ys' : Array Value} (s1 : xs.size = xs'.size) (p1 : ∀ (i : Nat) x y, xs[i]? = some x → xs'[i]? = some y → VR ι x y) (s2 : ys.size = ys'.size) (p2 : ∀ (i : Nat) x y, ys[i]? = some x → ys'[i]? = some y → VR ι x y) :
  ∀ (n i : Nat) (r : Bool), ZwL P g e sz xs ys n i = some r → (Zkv d e sz xs' ys' (List.range' i n)).run P w = .ok r w
 | 0, i, r, h => by simp [ZwL] at h; subst h; rfl
 | n + 1, i, r, h => by
  simp only [ZwL] at h
  split at h
  ·rename_i a b r' h1 h2 h3
   split at h
   ·rename_i q hq
    injection h with h
    subst h
    obtain ⟨a', e1, v1⟩ := Zfh (w := w) s1 p1 h1
    obtain ⟨b', e2, v2⟩ := Zfh (w := w) s2 p2 h2
    have e3 := hg _ _ _ _ _ v1 v2 hq
    have ih := Zxd hg s1 p1 s2 p2 n (i + 1) r' h3
    rw [List.range'_succ]
    simp only [Zkv, Sem.run_bind, e1, e2, e3, Result.andThen_ok]
    cases q
    ·simp [Sem.run]
    ·simpa using ih
   ·cases h
  ·cases h
theorem Zui : ∀ (d k : Nat), EqOk P ι w (d + k) (eqV P d)
 | 0, k => fun t x y x' y' q hx hy h => by simp [eqV] at h
 | d + 1, k => fun t x y x' y' q hx hy h => by
  have ed : d + 1 + k = (d + k) + 1 := by omega
  rw [ed]
  simp only [eqV] at h
  split at h
  ·rename_i k0 kk a k2 b hu
   split at h
   ·rename_i hk
    subst hk
    injection h with h
    subst h
    have e1 := hx.int_inv
    have e2 := hy.int_inv
    subst e1 e2
    exact run_equalIn_int w (d + k) t _ _ a b hu
   ·cases h
  ·rename_i a b hu
   injection h with h
   subst h
   have e1 := hx.bool_inv
   have e2 := hy.bool_inv
   subst e1 e2
   exact run_equalIn_bool' w (d + k) t a b hu
  ·rename_i fs xs ys hu
   obtain ⟨hg, h⟩ := (show ∀ {b : Bool} {x : Option Bool} {y : Bool}, (bif b then none else x) = some y → b = false ∧ x = some y from fun {b x y} h => by cases b <;> simp at h; exact ⟨rfl, h⟩) h
   obtain ⟨xs', rfl, s1, p1⟩ := hx.agg_inv
   obtain ⟨ys', rfl, s2, p2⟩ := hy.agg_inv
   have hfo : P.fieldsOf t = fs := by unfold Program.fieldsOf; rw [hu]
   have e := run_equalIn_struct (P := P) w (d + k) t xs' ys' (by rw [hfo]; exact hu) hg
   rw [hfo] at e
   exact e.trans (Zxc (Zui d k) s1 p1 s2 p2 fs.toList q h)
  ·rename_i n e xs ys hu
   split at h
   ·rename_i i hi
    obtain ⟨xs', rfl, s1, p1⟩ := hx.agg_inv
    obtain ⟨ys', rfl, s2, p2⟩ := hy.agg_inv
    exact (ZqB w (d + k) t e n i xs' ys' hu hi).trans (Zxd (fun x y x' y' q => Zui d k e x y x' y' q) s1 p1 s2 p2 n 0 q h)
   ·cases h
  ·cases h
theorem Zl2 {t : TypeId} {x y x' y' : Value} {q : Bool} (hx : VR ι x x') (hy : VR ι y y') (h : Znn P t x y = some q) : ∃ xs ys, x' = .agg xs ∧ y' = .agg ys ∧ P.eqGuardType P.depth t = false ∧ (Op.equal t x' y').run P w = .ok q w := by
 unfold Znn at h
 split at h
 ·rename_i xs ys
  obtain ⟨hg, h⟩ := (show ∀ {b : Bool} {x : Option Bool} {y : Bool}, (bif b then none else x) = some y → b = false ∧ x = some y from fun {b x y} h => by cases b <;> simp at h; exact ⟨rfl, h⟩) h
  have e := Zui (P := P) (w := w) 8 9992 t _ _ _ _ q hx hy h
  obtain ⟨xs', rfl, s1, p1⟩ := hx.agg_inv
  obtain ⟨ys', rfl, s2, p2⟩ := hy.agg_inv
  exact ⟨xs', ys', rfl, rfl, hg, e⟩
 ·cases h
theorem ZzE {t : TypeId} {xs ys : Array Value} {q : Bool} (h : (Op.equal t (.agg xs) (.agg ys)).run P w = .ok q w) : (binOp .eql t (.agg xs) (.agg ys)).run P w = .ok (.bool q) w ∧ (binOp .neq t (.agg xs) (.agg ys)).run P w = .ok (.bool (!q)) w := by
 constructor
 ·show (do pure (.bool (← Op.equal t (.agg xs) (.agg ys))) : Sem Value).run P w = _
  simp [h, Result.andThen, Sem.run]
 ·show (do pure (.bool (!(← Op.equal t (.agg xs) (.agg ys)))) : Sem Value).run P w = _
  simp [h, Result.andThen, Sem.run]
theorem Zvp {op : BinOp} {t : TypeId} {x y : Operand} {xs ys : Array Value} (h : P.eqGuardType P.depth t = false) : (eqGuard op t x y (.agg xs) (.agg ys)).run P w = .ok () w := by
 unfold eqGuard
 cases op <;> first | rfl | (simp [program, Sem.run, h, Result.andThen])
end
section
variable {P : Program} {ι : Ren} {w : World} {ρ ρ' : Operand → Value} {s s' : St} {v : Value}
theorem ZzF {es es' : List MapEntry} (h : kvs es = kvs es') (i : Nat) : (es[i]?).map (fun e => (e.key, e.val)) = (es'[i]?).map (fun e => (e.key, e.val)) := by
 have := congrArg (fun l => l[i]?) h
 simpa [kvs] using this
theorem Znv {d : TypeDesc} {k : Value} : ∀ {es es' : List MapEntry} (i : Nat), kvs es = kvs es' → Instr.findNow d k es i = Instr.findNow d k es' i
 | [], [], _, _ => rfl
 | [], _ :: _, _, h => by simp [kvs] at h
 | _ :: _, [], _, h => by simp [kvs] at h
 | e :: es, e' :: es', i, h => by
  simp only [kvs, List.map_cons, List.cons.injEq, Prod.mk.injEq] at h
  simp only [Instr.findNow]
  rw [h.1.1, h.1.2, Znv (i + 1) h.2]
theorem Z0i {es es' : List MapEntry} (h : kvs es = kvs es') (i : Nat) (k x : Value) (f g : MapEntry → MapEntry) (hf : ∀ e, (f e).key = k ∧ (f e).val = x) (hg : ∀ e, (g e).key = k ∧ (g e).val = x) : kvs (es.modify i f) = kvs (es'.modify i g) := by
 apply List.ext_getElem?
 intro j
 simp only [kvs, List.getElem?_map, List.getElem?_modify]
 have hj := ZzF h j
 cases h1 : es[j]? <;> cases h2 : es'[j]? <;> rw [h1, h2] at hj <;> simp at hj ⊢
 rename_i a b
 by_cases hij : i = j
 ·simp [hij, (hf a).1, (hf a).2, (hg b).1, (hg b).2]
 ·simp [hij, hj]
theorem Zvq {q : IntKind} {k : Value} : ∀ (l : List MapEntry) (i : Nat) (r : Nat × Value), Instr.findNow (.int q) k l i = some (some r) → ∃ e, l[r.1 - i]? = some e ∧ e.key = k ∧ i ≤ r.1 ∧ ∃ j n, k = .int j n
 | [], i, r, h => by simp [Instr.findNow] at h
 | e :: l, i, r, h => by
  simp only [Instr.findNow] at h
  split at h
  ·rename_i hs
   injection h with h; injection h with h; subst h
   unfold Instr.sameNow at hs
   split at hs
   ·rename_i a b c d hk
    split at hs
    ·injection hs with hs
     rename_i hab
     have := beq_iff_eq.1 hs
     subst this hab
     exact ⟨e, by simp, hk, Nat.le_refl _, _, _, rfl⟩
    ·cases hs
   ·exact absurd ‹TypeDesc.int q = TypeDesc.string› (by simp)
   ·exact absurd ‹TypeDesc.int q = TypeDesc.bool› (by simp)
   ·cases hs
  ·obtain ⟨e', h1, h2, h3, h4⟩ := Zvq l (i + 1) r h
   refine ⟨e', ?_, h2, by omega, h4⟩
   rw [show r.1 - i = (r.1 - (i + 1)) + 1 by omega]
   exact h1
  ·cases h
theorem Zpc {kt : TypeId} {q : IntKind} (hk : P.underlying kt = some (.int q)) (k : Value) (e : Bool) (n : Nat) : (Instr.checkKey e (n + 1) kt k).run P w = .ok () w := by
 simp only [Instr.checkKey, Sem.run_bind, run_underlying hk, Result.andThen]
 cases k <;> rfl
theorem ZhZ {r : Nat} {o : Obj} {es : Array MapEntry} {c : Nat} (hB : w.heap[r]? = some (.map es c)) : (setObj r o).run P w = .ok () { w with heap := w.heap.setIfInBounds r o } ∧ ({ w with heap := w.heap.setIfInBounds r o } : World).heap[r]? = some o ∧ (∀ i, i ≠ r → ({ w with heap := w.heap.setIfInBounds r o } : World).heap[i]? = w.heap[i]?) ∧ ({ w with heap := w.heap.setIfInBounds r o } : World).heap.size = w.heap.size :=
 ⟨Go.MapKept.run_setObj_map o hB, (Go.MapKept.heap_set hB).1, (Go.MapKept.heap_set hB).2, by simp⟩
theorem VR.map_inv {k : Nat} {v' : Value} (h : VR ι (.map (some k)) v') : ∃ b, ι k = some b ∧ v' = .map (some b.1) := by
 cases h with
 | atom h => simp [Ev.atom] at h
 | map h => exact ⟨_, h, rfl⟩
theorem VR.map_none {v' : Value} (h : VR ι (.map none) v') : v' = .map none := h.eq_of_atom rfl
theorem Zjw (he : Emb P ι s.h.get w) {k : Nat} {es : List MapEntry} (h : Zgw s (.map (some k)) = some es) : ∃ (b : Nat × Nat) (es' : Array MapEntry) (c : Nat), ι k = some b ∧ w.heap[b.1]? = some (.map es' c) ∧ kvs es = kvs es'.toList ∧ ∃ O, s.h.get k = some (.ro O true) := by
 simp only [Zgw] at h
 split at h
 ·rename_i a c hk
  injection h with h
  subst h
  obtain ⟨b, hb, ⟨es1, c1, es', c', e1, e2, e3⟩ | ⟨b1, p1, e1, _⟩⟩ := he.ro k _ hk
  rotate_left
  ·cases e1
  injection e1 with e1
  subst e1
  exact ⟨b, es', c', hb, e2, e3, _, hk⟩
 ·cases h
theorem Z0j {t : TypeId} {z : Value} (h : Zw8 P t = some z) : (zeroValue t).run P w = .ok z w ∧ Zbv z = true := by
 unfold Zw8 at h
 split at h
 ·rename_i i hi
  split at h
  ·rename_i u hu
   obtain ⟨h1, h2⟩ := Zp h
   injection h2 with h2
   subst h2
   exact ⟨by simp [zeroValue, typeInfo, hi, hu, Result.andThen], h1⟩
  ·cases h
 ·cases h
theorem ZyL {t : TypeId} (h : ZwM P t = true) (v : Value) (e : Bool) (n : Nat) : (Instr.checkKey e (n + 1) t v).run P w = .ok () w := by
 unfold ZwM at h
 split at h
 ·rename_i q hq; exact Zpc hq v e n
 ·rename_i hq
  simp only [Instr.checkKey, Sem.run_bind, run_underlying hq, Result.andThen]
  cases v <;> rfl
 ·rename_i hq
  simp only [Instr.checkKey, Sem.run_bind, run_underlying hq, Result.andThen]
  cases v <;> rfl
 ·cases h
theorem ZsX {kt : TypeId} (hk : P.underlying kt = some .string) (k : Value) (e : Bool) (n : Nat) : (Instr.checkKey e (n + 1) kt k).run P w = .ok () w := by
 simp only [Instr.checkKey, Sem.run_bind, run_underlying hk, Result.andThen]
 cases k <;> rfl
theorem Z1d {t : TypeId} {cs : Array Value} {o : Nat} (h : (Zgs P t cs o).isSome) : ∃ v, (part t cs o).run P w = .ok v w := by
 obtain ⟨v, hv⟩ := Option.isSome_iff_exists.1 h
 unfold Zgs at hv
 split at hv
 ·rename_i m hsh
  obtain ⟨hA, i, hi, him⟩ := Zgy (w := w) hsh
  subst him
  exact ⟨.agg (cs.extract o (o + i.size)), by simp [part, hA, Result.andThen, sizeOf, typeInfo, hi, Sem.run]⟩
 ·rename_i m hsh
  obtain ⟨hA, _⟩ := Zgy (w := w) hsh
  have hlt : o < cs.size := (Array.getElem?_eq_some_iff.1 hv).1
  exact ⟨cs[o], by simp [part, hA, Result.andThen, Sem.run, Array.getElem?_eq_getElem hlt]⟩
 ·cases hv
theorem ZsY {kt : TypeId} {fs : Array Field} (hk : P.underlying kt = some (.struct fs)) {cs : Array Value} (e : Bool) (n : Nat) (h : Zno P cs fs.toList = true) : (Instr.checkKey e (n + 2) kt (.agg cs)).run P w = .ok () w := by
 rw [Instr.checkKey]
 simp only [Sem.run_bind, run_underlying hk, Result.andThen_ok]
 rw [← Array.forIn_toList]
 generalize fs.toList = l at h
 clear hk
 induction l with
 | nil => simp
 | cons f l ih =>
  simp only [Zno, Bool.and_eq_true, Bool.or_eq_true, beq_iff_eq] at h
  simp only [List.forIn_cons, Sem.run_bind, Sem.run_ite]
  rcases h.1 with h1 | h1
  ·simp only [h1, ne_eq, not_true_eq_false, if_false, Sem.run_pure, Result.andThen_ok]
   exact ih h.2
  ·by_cases hn : f.name = "_"
   ·simp only [hn, ne_eq, not_true_eq_false, if_false, Sem.run_pure, Result.andThen_ok]
    exact ih h.2
   ·obtain ⟨v, hv⟩ := Z1d (w := w) h1.2
    simp only [hn, ne_eq, not_false_eq_true, if_true, hv, ZyL h1.1 v e n, Result.andThen_ok, Sem.run_pure]
    exact ih h.2
theorem ZsZ {kt : TypeId} {k : Value} (hkf : Zbv k = true) : ∀ {es es' : List MapEntry} (i : Nat) {a : Option (Nat × Value)}, kvs es = kvs es' → ZkB P kt k es i = some a → (Instr.findAsking kt k es' i).run P w = .ok a w
 | [], [], _, a, _, h => by simp only [ZkB] at h; injection h with h; subst h; rfl
 | [], _ :: _, _, _, h, _ => by simp [kvs] at h
 | _ :: _, [], _, _, h, _ => by simp [kvs] at h
 | e :: es, e' :: es', i, a, hkv, h => by
  simp only [kvs, List.map_cons, List.cons.injEq, Prod.mk.injEq] at hkv
  simp only [ZkB] at h
  obtain ⟨hf, h⟩ := Zp h
  have hv := VR.of_free1 (ι := fun _ => none) hf
  have hk := VR.of_free1 (ι := fun _ => none) hkf
  split at h
  ·rename_i hq
   injection h with h
   subst h
   obtain ⟨_, _, _, _, _, hr⟩ := Zl2 (w := w) hk hv hq
   rw [Instr.findAsking, ← hkv.1.1, ← hkv.1.2]
   simp [hr, Result.andThen, Sem.run]
  ·rename_i hq
   obtain ⟨_, _, _, _, _, hr⟩ := Zl2 (w := w) hk hv hq
   rw [Instr.findAsking, ← hkv.1.1]
   simp only [Sem.run_bind, hr, Result.andThen_ok, Bool.false_eq_true, if_false]
   exact ZsZ hkf (i + 1) hkv.2 h
  ·cases h
theorem Zia {kt : TypeId} {k : Value} {es es' : List MapEntry} {a : Option (Nat × Value)} (hkf : Zbv k = true) (hes : kvs es = kvs es') (h : Zcu P kt k es = some a) : (Instr.findKey kt k es').run P w = .ok a w ∧ ∀ e, (Instr.checkKey e 10000 kt k).run P w = .ok () w := by
 unfold Zcu at h
 split at h
 ·rename_i q hq
  rw [Znv 0 hes] at h
  exact ⟨Go.MapKept.run_findKey hq h, fun e => Zpc hq k e 9999⟩
 ·rename_i hq
  rw [Znv 0 hes] at h
  exact ⟨Go.MapKept.run_findKey hq h, fun e => ZsX hq k e 9999⟩
 ·rename_i fs hq
  split at h
  ·rename_i cs
   obtain ⟨h1, h⟩ := Zp h
   refine ⟨?_, fun e => ZsY hq e 9998 h1⟩
   rw [run_findKey_eq (w := w) (by rw [hq])]
   exact ZsZ hkf 0 hes h
  ·cases h
 ·cases h
theorem Z1W {z : Value} (h : Zbv z = true) : free z = true := by
 cases z <;> first | exact h | (simp [Zbv, atom] at h)
theorem Z0k {z : Value} {ok : Bool} {r : Option Value} (h1 : Zbv z = true) (h2 : ZkC r = true) : free (ZgV z ok r) = true := by
 have h3 : Zbv (r.getD z) = true := by cases r with | none => exact h1 | some u => exact h2
 cases ok with
 | false => exact Z1W h3
 | true =>
  show (Zbv (r.getD z) && (true && true)) = true
  rw [h3]
  rfl
theorem Z0l {t kt et : TypeId} {z k : Value} {ok : Bool} {r : Option (Nat × Value)} (hkf : Zbv k = true) (hm : P.underlying t = some (.map kt et)) (hz : (zeroValue et).run P w = .ok z w) (hr : Zcu P kt k [] = some r) :
  (Instr.lookup t (.map none) k ok).run P w = .ok (ZgV z ok (r.map (·.2))) w := by
 obtain ⟨ha, hc⟩ := Zia (w := w) (es' := []) hkf rfl hr
 simp only [Instr.lookup, Sem.run_bind, Sem.run, run_underlying hm, Result.andThen, hc, ha, Sem.run_pure]
 cases r with
 | none => cases ok <;> simp [ZgV, hz, Result.andThen, Sem.run]
 | some a => cases ok <;> simp [ZgV, Result.andThen, Sem.run]
theorem Z0m {t kt et : TypeId} {z k : Value} {ok : Bool} {r : Option (Nat × Value)} {b : Nat} {es : List MapEntry} {es' : Array MapEntry} {c : Nat} (hkf : Zbv k = true) (hm : P.underlying t = some (.map kt et)) (hz : (zeroValue et).run P w = .ok z w) (hB : w.heap[b]? = some (.map es' c)) (hkv : kvs es = kvs es'.toList) (hr : Zcu P kt k es = some r) :
  (Instr.lookup t (.map (some b)) k ok).run P w = .ok (ZgV z ok (r.map (·.2))) w := by
 obtain ⟨ha, hc⟩ := Zia (w := w) hkf hkv hr
 simp only [Instr.lookup, Sem.run_bind, Sem.run, run_underlying hm, Result.andThen, Go.MapKept.run_getObj_map hB, hc, ha, Sem.run_pure]
 cases r with
 | none => cases ok <;> simp [ZgV, hz, Result.andThen, Sem.run]
 | some a => cases ok <;> simp [ZgV, Result.andThen, Sem.run]
theorem Zpd {o : Oper} {t : TypeId} {x ix : Operand} {ok : Bool} (ho : o.op = .lookup t x ix ok) (hρ : ∀ x, VR ι (ρ x) (ρ' x)) (he : Emb P ι s.h.get w) (h : Zf6 P ρ t x ix ok s = some (v, s')) :
  s' = s ∧ Res P ((execOp ρ' o).run P w) s ι w v s' := by
 unfold Zf6 at h
 split at h
 ·rename_i kt et hm
  split at h
  ·rename_i z es hz hes
   obtain ⟨hat, h⟩ := Zp h
   split at h
   ·rename_i r hr
    obtain ⟨hfr, h⟩ := Zp h
    injection h with h
    injection h with h1 h2
    subst h1 h2
    refine ⟨rfl, ?_⟩
    have hix : ρ' ix = ρ ix := (hρ ix).eq_of_free1 hat
    obtain ⟨hz1, hz2⟩ := Z0j (w := w) hz
    refine Res.same he (v' := ZgV z ok (r.map (·.2))) ?_ (VR.of_free (Z0k hz2 hfr))
    have key : (Instr.lookup t (ρ' x) (ρ' ix) ok).run P w = .ok (ZgV z ok (r.map (·.2))) w := by
     rw [hix]
     cases hx : ρ x with
     | map m =>
      have hv := hx ▸ hρ x
      cases m with
      | none =>
       rw [hv.map_none]
       rw [hx] at hes
       injection hes with hes
       subst hes
       exact Z0l hat hm hz1 hr
      | some k =>
       obtain ⟨b, hb, hx'⟩ := hv.map_inv
       rw [hx] at hes
       obtain ⟨b2, es', c, hb2, hB, hkv, _⟩ := Zjw he hes
       rw [hb] at hb2; injection hb2 with hb2; subst hb2
       rw [hx']
       exact Z0m hat hm hz1 hB hkv hr
     | _ => rw [hx] at hes; simp [Zgw] at hes
    simp [execOp, ho, key, Result.andThen, Sem.run]
   ·cases h
  ·cases h
 ·cases h
theorem Zpe {o : Oper} {t : TypeId} {m k x : Operand} (ho : o.op = .mapUpdate t m k x) (hρ : ∀ x, VR ι (ρ x) (ρ' x)) (he : Emb P ι s.h.get w) (h : Zf7 P ρ t m k x s = some (v, s')) :
  Res P ((execOp ρ' o).run P w) s ι w v s' := by
 unfold Zf7 at h
 split at h
 ·rename_i kt et b0 hm hmm
  split at h
  ·rename_i es hes
   obtain ⟨hat, h⟩ := Zp h
   simp only [Bool.and_eq_true] at hat
   split at h
   ·rename_i l hl
    injection h with h
    injection h with h1 h2
    subst h1 h2
    have hk' : ρ' k = ρ k := (hρ k).eq_of_free1 hat.1
    have hx' : ρ' x = ρ x := (hρ x).eq_of_free1 hat.2
    obtain ⟨b, hb, hm'⟩ := (hmm ▸ hρ m).map_inv
    obtain ⟨b2, es', c, hb2, hB, hkv, O, hO⟩ := Zjw he hes
    rw [hb] at hb2; injection hb2 with hb2; subst hb2
    have main : ∃ (es2 : Array MapEntry) (c2 : Nat), (Instr.mapUpdate t (ρ' m) (ρ' k) (ρ' x)).run P w = .ok () { w with heap := w.heap.setIfInBounds b.1 (.map es2 c2) } ∧ kvs l = kvs es2.toList := by
     rw [hm', hk', hx']
     unfold putM at hl
     split at hl
     ·rename_i hf
      obtain ⟨hf, hc⟩ := Zia (w := w) hat.1 hkv hf
      injection hl with hl
      subst hl
      refine ⟨es'.push { key := ρ k, val := ρ x, born := c }, c + 1, ?_, by simp [kvs] at hkv ⊢; exact hkv⟩
      simp [Instr.mapUpdate, run_underlying hm, Result.andThen, Go.MapKept.run_getObj_map hB, hc, hf, (ZhZ hB).1]
     ·rename_i r hf
      obtain ⟨hf, hc⟩ := Zia (w := w) hat.1 hkv hf
      obtain ⟨hb, hl⟩ := Zp hl
      injection hl with hl
      subst hl
      have hkey : ((es'[r.1]?).map (·.key)).getD (ρ k) = ((es[r.1]?).map (·.key)).getD (ρ k) := by
       have := ZzF hkv r.1
       rw [show es'.toList[r.1]? = es'[r.1]? from by simp] at this
       have h2 := congrArg (Option.map (·.1)) this
       simp only [Option.map_map] at h2
       have e : ∀ o : Option MapEntry, o.map ((fun x : Value × Value => x.1) ∘ fun e => (e.key, e.val)) = o.map (·.key) := fun o => by cases o <;> rfl
       rw [e, e] at h2
       rw [h2]
      have hst : (Instr.keyThatStays (((es[r.1]?).map (·.key)).getD (ρ k)) (ρ k)).run P w = .ok (ρ k) w := by
       simp [Instr.keyThatStays, hb, Sem.run]
      refine ⟨es'.modify r.1 fun e => { e with key := ρ k, val := ρ x }, c, ?_, ?_⟩
      ·simp [Instr.mapUpdate, run_underlying hm, Result.andThen, Go.MapKept.run_getObj_map hB, hc, hf, hkey, hst, (ZhZ hB).1]
      ·rw [Array.toList_modify]
       exact Z0i hkv _ (ρ k) (ρ x) _ _ (fun e => ⟨rfl, rfl⟩) (fun e => ⟨rfl, rfl⟩)
     ·cases hl
    obtain ⟨es2, c2, hrun, hkv2⟩ := main
    obtain ⟨_, q1, q2, q3⟩ := ZhZ (P := P) (o := .map es2 c2) hB
    refine ⟨.skip, { w with heap := w.heap.setIfInBounds b.1 (.map es2 c2) }, ι, undef, ?_, .inr ⟨rfl, rfl⟩, ?_, Dom.refl, VR.of_free rfl⟩
    ·simp [execOp, ho, hrun, Result.andThen, Sem.run]
    ·show Step P ι s.h.get w ι (s.h.set b0 (some (.ro (.map l.toArray 0) true))).get _
     rw [Tr.get_set]
     exact Step.storeM he hO hb (.inl ⟨_, _, es2, c2, rfl, q1, by simpa using hkv2⟩) q2 q3 rfl rfl rfl
   ·cases h
  ·cases h
 ·cases h
theorem Zvr : ∀ {es es' : List MapEntry} (h : kvs es = kvs es') (i : Nat), kvs (es.eraseIdx i) = kvs (es'.eraseIdx i)
 | [], [], _, _ => rfl
 | [], _ :: _, h, _ => by simp [kvs] at h
 | _ :: _, [], h, _ => by simp [kvs] at h
 | e :: es, e' :: es', h, 0 => by
  simp only [kvs, List.map_cons, List.cons.injEq] at h
  exact h.2
 | e :: es, e' :: es', h, i + 1 => by
  simp only [kvs, List.map_cons, List.cons.injEq] at h
  have := Zvr h.2 i
  simp only [kvs] at this
  simp only [List.eraseIdx_cons_succ, kvs, List.map_cons, h.1, this]
theorem Zxe {t t2 ty : TypeId} {x x' k k' : Value} (hx : VR ι x x') (hk : VR ι k k') (he : Emb P ι s.h.get w) (h : ZkD P s t x k = some (v, s')) :
  ∃ w', (Builtin.delete_ #[t, t2] ty #[x', k']).run P w = .ok (.tuple #[]) w' ∧ Step P ι s.h.get w ι s'.h.get w' ∧ s'.n = s.n ∧ v = .tuple #[] := by
 unfold ZkD at h
 split at h
 ·rename_i kt et b0 hm
  split at h
  ·rename_i es hes
   obtain ⟨hkf, h⟩ := Zp h
   have hk' : k' = k := hk.eq_of_free1 hkf
   obtain ⟨b, hb, hx'⟩ := hx.map_inv
   obtain ⟨b2, es', c, hb2, hB, hkv, O, hO⟩ := Zjw he hes
   rw [hb] at hb2; injection hb2 with hb2; subst hb2
   split at h
   ·rename_i r hf
    obtain ⟨hf, hc⟩ := Zia (w := w) hkf hkv hf
    injection h with h
    injection h with h1 h2
    subst h1 h2
    obtain ⟨q0, q1, q2, q3⟩ := ZhZ (P := P) (o := .map (es'.eraseIdxIfInBounds r.1) c) hB
    refine ⟨{ w with heap := w.heap.setIfInBounds b.1 (.map (es'.eraseIdxIfInBounds r.1) c) }, ?_, ?_, rfl, rfl⟩
    ·rw [hx', hk']
     simp [Builtin.delete_, run_underlying hm, Result.andThen, Sem.run, Go.MapKept.run_getObj_map hB, hc, hf, q0]
    ·show Step P ι s.h.get w ι (s.h.set b0 (some (.ro (.map (es.eraseIdx r.1).toArray 0) true))).get _
     rw [Tr.get_set]
     refine Step.storeM he hO hb (.inl ⟨_, _, _, c, rfl, q1, ?_⟩) q2 q3 rfl rfl rfl
     have : (es'.eraseIdxIfInBounds r.1).toList = es'.toList.eraseIdx r.1 := by
      unfold Array.eraseIdxIfInBounds
      split
      ·rw [Array.toList_eraseIdx]
      ·rename_i hi
       rw [List.eraseIdx_of_length_le (by simpa using hi)]
     rw [this]
     simpa using Zvr hkv r.1
   ·rename_i hf
    obtain ⟨hf, hc⟩ := Zia (w := w) hkf hkv hf
    injection h with h
    injection h with h1 h2
    subst h1 h2
    obtain ⟨q0, q1, q2, q3⟩ := ZhZ (P := P) (o := .map es' c) hB
    refine ⟨{ w with heap := w.heap.setIfInBounds b.1 (.map es' c) }, ?_, ?_, rfl, rfl⟩
    ·rw [hx', hk']
     simp [Builtin.delete_, run_underlying hm, Result.andThen, Sem.run, Go.MapKept.run_getObj_map hB, hc, hf, q0]
    ·show Step P ι s.h.get w ι (s.h.set b0 (some (.ro (.map es.toArray 0) true))).get _
     rw [Tr.get_set]
     exact Step.storeM he hO hb (.inl ⟨_, _, _, c, rfl, q1, by simpa using hkv⟩) q2 q3 rfl rfl rfl
   ·cases h
  ·cases h
 ·cases h
theorem Zxf {t kt et ty : TypeId} {b0 : Nat} {x' : Value} {es : List MapEntry} (hm : P.underlying t = some (.map kt et)) (hx : VR ι (.map (some b0)) x') (he : Emb P ι s.h.get w) (hes : Zgw s (.map (some b0)) = some es) : (Builtin.len_ #[t] ty #[x']).run P w = .ok (goInt es.length) w := by
 obtain ⟨b, hb, hx'⟩ := hx.map_inv
 obtain ⟨b2, es', c, hb2, hB, hkv, O, hO⟩ := Zjw he hes
 rw [hb] at hb2; injection hb2 with hb2; subst hb2
 have hl : es.length = es'.size := by
  have := congrArg List.length hkv
  simpa [kvs] using this
 rw [hx']
 simp [Builtin.len_, run_underlying hm, Result.andThen, Sem.run, Go.MapKept.run_getObj_map hB, hl]
theorem ZyM {o : Oper} {t : TypeId} {x : Operand} (ho : o.op = .range t x) (hρ : ∀ x, VR ι (ρ x) (ρ' x)) (he : Emb P ι s.h.get w) (hf : Fresh ι s.n s'.n) (h : Zm6 P ρ t x s = some (v, s')) :
  Res P ((execOp ρ' o).run P w) s ι w v s' := by
 unfold Zm6 at h
 split at h
 ·rename_i b hu hx
  injection h with h
  injection h with h1 h2
  subst h1 h2
  have hx' : ρ' x = .string b := (hx ▸ hρ x).eq_of_atom rfl
  have st := Step.allocM he (Nat.lt_of_lt_of_le (Nat.lt_succ_self _) hf.1) (hf.2 s.n (Nat.le_refl _) (Nat.lt_succ_self _)) (O := .stringIter b 0) (O' := .stringIter b 0) (.inr ⟨_, _, rfl, rfl⟩) 0
  refine ⟨.value (.pointer (some ⟨w.heap.size, 0, none⟩)), w.alloc (.stringIter b 0), upd ι s.n (some (w.heap.size, 0)), .pointer (some ⟨w.heap.size, 0, none⟩), ?_, .inl rfl, ?_, Dom.one, .ptr (b := (w.heap.size, 0)) Zo⟩
  ·simp [execOp, ho, Instr.range, run_underlying hu, hx', newObj, Result.andThen, Sem.run]
  ·show Step P ι s.h.get w _ (s.h.set s.n (some (.ro (.stringIter b 0) true))).get _
   rw [Tr.get_set]
   exact st
 ·cases h
theorem Z0n {o : Oper} {it : Operand} {q : Bool} (ho : o.op = .next it q) (hρ : ∀ x, VR ι (ρ x) (ρ' x)) (he : Emb P ι s.h.get w) (h : ZoV ρ it q s = some (v, s')) :
  Res P ((execOp ρ' o).run P w) s ι w v s' := by
 unfold ZoV at h
 split at h
 ·rename_i k hx
  split at h
  ·rename_i b p hk
   obtain ⟨q0, hq, hR⟩ := he.ro k _ hk
   have hB : w.heap[q0.1]? = some (.stringIter b p) := by
    rcases hR with ⟨_, _, _, _, e, _⟩ | ⟨_, _, _, e⟩
    ·cases e
    ·exact e
   obtain ⟨q1, hq1, hit⟩ := (hx ▸ hρ it).ptr_inv
   rw [hq] at hq1; injection hq1 with hq1; subst hq1
   split at h
   ·rename_i hlt
    injection h with h
    injection h with h1 h2
    subst h1 h2
    refine ⟨.value (.tuple #[.bool true, goInt p, .int .i32 (Utf8.decode b p).1]), { w with heap := w.heap.setIfInBounds q0.1 (.stringIter b (p + (Utf8.decode b p).2)) }, ι, .tuple #[.bool true, goInt p, .int .i32 (Utf8.decode b p).1], ?_, .inl rfl, ?_, Dom.refl, VR.of_free rfl⟩
    ·simp [execOp, ho, Instr.next, hit, Sem.run, Result.andThen, getObj, setObj, hB, hlt]
    ·show Step P ι s.h.get w ι (s.h.set k (some (.ro (.stringIter b (p + (Utf8.decode b p).2)) true))).get _
     rw [Tr.get_set]
     have hl : q0.1 < w.heap.size := (Array.getElem?_eq_some_iff.1 hB).1
     exact Step.storeM he hk hq (.inr ⟨_, _, rfl, by simp [hl]⟩) (fun i hi => by simp [Array.getElem?_setIfInBounds, Ne.symm hi]) (by simp) rfl rfl rfl
   ·rename_i hlt
    injection h with h
    injection h with h1 h2
    subst h1 h2
    refine Res.same he (v' := .tuple #[.bool false]) ?_ (VR.of_free rfl)
    simp [execOp, ho, Instr.next, hit, Sem.run, Result.andThen, getObj, hB, hlt]
  ·cases h
 ·cases h
theorem ZvB {o : Oper} {t : TypeId} {r : Option Operand} (ho : o.op = .makeMap t r) (hρ : ∀ x, VR ι (ρ x) (ρ' x)) (he : Emb P ι s.h.get w) (hf : Fresh ι s.n s'.n) (h : Zjt P ρ t r s = some (v, s')) :
  Res P ((execOp ρ' o).run P w) s ι w v s' := by
 have main : ∀ (hr : (Instr.makeMap t (r.map ρ')).run P w = .ok (.map (some w.heap.size)) (w.alloc (.map #[] 0))) (_ : v = .map (some s.n)) (_ : s' = s.addM (.map #[] 0)), Res P ((execOp ρ' o).run P w) s ι w v s' := by
  rintro hr rfl rfl
  have st := Step.allocM he (Nat.lt_of_lt_of_le (Nat.lt_succ_self _) hf.1) (hf.2 s.n (Nat.le_refl _) (Nat.lt_succ_self _)) (O := .map #[] 0) (O' := .map #[] 0) (.inl ⟨_, _, _, _, rfl, rfl, rfl⟩) 0
  refine ⟨.value (.map (some w.heap.size)), w.alloc (.map #[] 0), upd ι s.n (some (w.heap.size, 0)), .map (some w.heap.size), ?_, .inl rfl, ?_, Dom.one, .map (b := (w.heap.size, 0)) Zo⟩
  ·simp [execOp, ho, hr, Result.andThen, Sem.run]
  ·show Step P ι s.h.get w _ (s.h.set s.n (some (.ro (.map #[] 0) true))).get _
   rw [Tr.get_set]
   exact st
 unfold Zjt at h
 split at h
 ·injection h with h
  injection h with h1 h2
  exact main (by simp [Instr.makeMap, newObj, Result.andThen, Sem.run]) h1.symm h2.symm
 ·rename_i x
  split at h
  ·rename_i kt et kk n hm hx
   injection h with h
   injection h with h1 h2
   have := (hx ▸ hρ x).int_inv
   exact main (by simp [Instr.makeMap, newObj, Result.andThen, Sem.run, run_underlying hm, this, asInt, asIntOf]) h1.symm h2.symm
  ·cases h
theorem ZyN {t ty : TypeId} {x x' : Value} (hx : VR ι x x') (he : Emb P ι s.h.get w) (h : Zm7 P s t x = some (v, s')) :
  ∃ w', (Builtin.clear_ #[t] ty #[x']).run P w = .ok (.tuple #[]) w' ∧ Step P ι s.h.get w ι s'.h.get w' ∧ s'.n = s.n ∧ v = .tuple #[] := by
 unfold Zm7 at h
 split at h
 ·rename_i kt et hm
  injection h with h
  injection h with h1 h2
  subst h1 h2
  refine ⟨w, ?_, Step.refl he, rfl, rfl⟩
  rw [hx.map_none]
  simp [Builtin.clear_, run_underlying hm, Result.andThen, Sem.run]
 ·rename_i kt et b0 hm
  split at h
  ·rename_i es hes
   injection h with h
   injection h with h1 h2
   subst h1 h2
   obtain ⟨b, hb, hx'⟩ := hx.map_inv
   obtain ⟨b2, es', c, hb2, hB, hkv, O, hO⟩ := Zjw he hes
   rw [hb] at hb2; injection hb2 with hb2; subst hb2
   obtain ⟨q0, q1, q2, q3⟩ := ZhZ (P := P) (o := .map #[] c) hB
   refine ⟨{ w with heap := w.heap.setIfInBounds b.1 (.map #[] c) }, ?_, ?_, rfl, rfl⟩
   ·rw [hx']
    simp [Builtin.clear_, run_underlying hm, Result.andThen, Sem.run, Go.MapKept.run_getObj_map hB, q0]
   ·show Step P ι s.h.get w ι (s.h.set b0 (some (.ro (.map #[] 0) true))).get _
    rw [Tr.get_set]
    exact Step.storeM he hO hb (.inl ⟨_, _, #[], c, rfl, q1, rfl⟩) q2 q3 rfl rfl rfl
  ·cases h
 ·cases h
theorem ZyO {kt : TypeId} {q : IntKind} (hk : P.underlying kt = some (.int q)) {k : Value} {es : List MapEntry} {r : Option Value} (h : Zw7 q k es = some r) : ∃ a, Zcu P kt k es = some a ∧ a.map (·.2) = r := by
 unfold Zw7 at h
 unfold Zcu
 rw [hk]
 split at h
 ·rename_i a ha
  injection h with h
  subst h
  exact ⟨some a, ha, rfl⟩
 ·rename_i ha
  injection h with h
  subst h
  exact ⟨none, ha, rfl⟩
 ·cases h
theorem Z1e {kt : TypeId} {q : IntKind} (hk : P.underlying kt = some (.int q)) {k x : Value} {es l : List MapEntry} (h : Z0d q k x es = some l) : putM P kt k x es = some l := by
 have hf : Zcu P kt k es = Instr.findNow (.int q) k es 0 := by unfold Zcu; rw [hk]
 unfold Z0d at h
 unfold putM
 rw [hf]
 split at h
 ·rename_i ha
  first | exact h | (rw [ha]; exact h)
 ·rename_i r ha
  obtain ⟨e, g1, g2, _, j, n, g3⟩ := Zvq _ _ _ ha
  have hkey : ((es[r.1]?).map (·.key)).getD k = k := by
   have : es[r.1]? = some e := by simpa using g1
   rw [this]
   exact g2
  first | rw [ha] | skip
  show (bif Instr.sameBits 10000 (((es[r.1]?).map (·.key)).getD k) k then _ else none) = _
  rw [hkey, g3]
  simp only [Instr.sameBits, beq_self_eq_true, Bool.and_self, cond_true]
  rw [← g3]
  exact h
 ·cases h
theorem Z0o {t : TypeId} {x ix : Operand} {ok : Bool} {r : Option Value} (hob : ∀ p ∈ s'.ob, p.1 = p.2) (h : Zjr P ρ t x ix ok r s = some (v, s')) : ∃ s1, Zf6 P ρ t x ix ok s = some (v, s1) ∧ s'.h = s1.h ∧ s'.n = s1.n := by
 unfold Zjr at h
 split at h
 ·rename_i kt et hm
  split at h
  ·rename_i q z es hk hz hes
   obtain ⟨hat, h⟩ := Zp h
   simp only [Bool.and_eq_true] at hat
   injection h with h
   injection h with h1 h2
   subst h1 h2
   have := Zac.1 (hob _ (List.mem_cons_self (a := (dP (Zw7 q (ρ ix) es = some r), true))))
   obtain ⟨a, ha, rfl⟩ := ZyO hk this
   refine ⟨s, ?_, rfl, rfl⟩
   have hf1 : Zbv (ρ ix) = true := by
    have := hat.1
    cases hx : ρ ix <;> rw [hx] at this <;> first | exact this | (simp [atom] at this)
   simp only [Zf6, hm, hz, hes, hf1, ha, hat.2, cond_true]
  ·rename_i fs z es hk hz hes
   obtain ⟨hat, h⟩ := Zp h
   simp only [Bool.and_eq_true] at hat
   injection h with h
   injection h with h1 h2
   subst h1 h2
   have := Zac.1 (hob _ (List.mem_cons_self (a := (dP ((Zcu P kt (ρ ix) es).map (Option.map Prod.snd) = some r), true))))
   obtain ⟨a, ha, rfl⟩ := Option.map_eq_some_iff.1 this
   refine ⟨s, ?_, rfl, rfl⟩
   have hf2 : ZkC (a.map (·.2)) = true := hat.2
   simp only [Zf6, hm, hz, hes, hat.1, ha, hf2, cond_true]
  ·rename_i z es hk hz hes
   obtain ⟨hat, h⟩ := Zp h
   simp only [Bool.and_eq_true] at hat
   injection h with h
   injection h with h1 h2
   subst h1 h2
   have := Zac.1 (hob _ (List.mem_cons_self (a := (dP ((Zcu P kt (ρ ix) es).map (Option.map Prod.snd) = some r), true))))
   obtain ⟨a, ha, rfl⟩ := Option.map_eq_some_iff.1 this
   refine ⟨s, ?_, rfl, rfl⟩
   have hf2 : ZkC (a.map (·.2)) = true := hat.2
   simp only [Zf6, hm, hz, hes, hat.1, ha, hf2, cond_true]
  ·cases h
 ·cases h
theorem Z0p {t : TypeId} {m k x : Operand} {l : List MapEntry} (hob : ∀ p ∈ s'.ob, p.1 = p.2) (h : Zjs P ρ t m k x l s = some (v, s')) : ∃ s1, Zf7 P ρ t m k x s = some (v, s1) ∧ s'.h = s1.h ∧ s'.n = s1.n := by
 unfold Zjs at h
 split at h
 ·rename_i kt et b hm hmm
  split at h
  ·rename_i q es hk hes
   obtain ⟨hat, h⟩ := Zp h
   injection h with h
   injection h with h1 h2
   subst h1 h2
   have := Zac.1 (hob _ (List.mem_cons_self (a := (dP (Z0d q (ρ k) (ρ x) es = some l), true))))
   refine ⟨s.putM b (.map l.toArray 0), ?_, rfl, rfl⟩
   have hf1 : Zbv (ρ k) = true := by
    have := (Bool.and_eq_true_iff.1 hat).1
    cases hx : ρ k <;> rw [hx] at this <;> first | exact this | (simp [atom] at this)
   simp only [Zf7, hm, hmm, hes, hf1, (Bool.and_eq_true_iff.1 hat).2, Bool.and_self, Z1e hk this, cond_true]
  ·rename_i fs es hk hes
   obtain ⟨hat, h⟩ := Zp h
   injection h with h
   injection h with h1 h2
   subst h1 h2
   have := Zac.1 (hob _ (List.mem_cons_self (a := (dP (putM P kt (ρ k) (ρ x) es = some l), true))))
   refine ⟨s.putM b (.map l.toArray 0), ?_, rfl, rfl⟩
   simp only [Zf7, hm, hmm, hes, (Bool.and_eq_true_iff.1 hat).1, (Bool.and_eq_true_iff.1 hat).2, Bool.and_self, this, cond_true]
  ·rename_i es hk hes
   obtain ⟨hat, h⟩ := Zp h
   injection h with h
   injection h with h1 h2
   subst h1 h2
   have := Zac.1 (hob _ (List.mem_cons_self (a := (dP (putM P kt (ρ k) (ρ x) es = some l), true))))
   refine ⟨s.putM b (.map l.toArray 0), ?_, rfl, rfl⟩
   simp only [Zf7, hm, hmm, hes, (Bool.and_eq_true_iff.1 hat).1, (Bool.and_eq_true_iff.1 hat).2, Bool.and_self, this, cond_true]
  ·cases h
 ·cases h
end
section
variable {P : Program} {ι : Ren} {w : World} {ρ ρ' : Operand → Value} {s s' : St} {v : Value}

theorem Zjx {o : Oper} {op : BinOp} {t : TypeId} {x y : Operand} {yt : TypeId} (ho : o.op = .binOp op t x y yt) (hρ : ∀ x, VR ι (ρ x) (ρ' x)) (he : Emb P ι s.h.get w) (h : Zjg P ρ o op t x y s = some (v, s')) :
  s' = s ∧ Res P ((execOp ρ' o).run P w) s ι w v s' := by
 have hs : ∀ cs b, o.op ≠ .select cs b := fun cs b e => by rw [ho] at e; cases e
 unfold Zjg at h
 split at h
 ·rename_i q hq
  injection h with h
  injection h with h1 h2
  subst h1 h2
  obtain ⟨xs, ys, hx', hy', hg, hr⟩ := Zl2 (w := w) (hρ x) (hρ y) hq
  have g := Zvp (P := P) (w := w) (op := .eql) (t := t) (x := x) (y := y) (xs := xs) (ys := ys) hg
  rw [hx', hy'] at hr
  exact ⟨rfl, Res.same he (v' := .bool q) (by simp [execOp, ho, hx', hy', g, (ZzE hr).1, Result.andThen, Sem.run]) (.atom rfl)⟩
 ·rename_i q hq
  injection h with h
  injection h with h1 h2
  subst h1 h2
  obtain ⟨xs, ys, hx', hy', hg, hr⟩ := Zl2 (w := w) (hρ x) (hρ y) hq
  have g := Zvp (P := P) (w := w) (op := .neq) (t := t) (x := x) (y := y) (xs := xs) (ys := ys) hg
  rw [hx', hy'] at hr
  exact ⟨rfl, Res.same he (v' := .bool (!q)) (by simp [execOp, ho, hx', hy', g, (ZzE hr).2, Result.andThen, Sem.run]) (.atom rfl)⟩
 split at h
 ·rename_i r hr
  injection h with h
  subst h
  exact Zcn hs hρ he hr
 ·split at h
  ·rename_i q hq _ _
   injection h with h
   injection h with h1 h2
   subst h1 h2
   obtain ⟨k1, k2⟩ := Zrm hq
   have e1 := Z1b (w := w) (ZiS (hρ x) k1) (ZiS (hρ y) k2) (Zpb he (hρ x) (hρ y) hq)
   have g := ZsW (P := P) (w := w) (op := .eql) (t := t) (x := x) (y := y) (b := ρ' y) (ZiS (hρ x) k1)
   exact ⟨rfl, Res.same he (v' := .bool q) (by simp [execOp, ho, g, e1, Result.andThen, Sem.run]) (.atom rfl)⟩
  ·rename_i q hq _ _
   injection h with h
   injection h with h1 h2
   subst h1 h2
   obtain ⟨k1, k2⟩ := Zrm hq
   have e1 := Z1c (w := w) (ZiS (hρ x) k1) (ZiS (hρ y) k2) (Zpb he (hρ x) (hρ y) hq)
   have g := ZsW (P := P) (w := w) (op := .neq) (t := t) (x := x) (y := y) (b := ρ' y) (ZiS (hρ x) k1)
   exact ⟨rfl, Res.same he (v' := .bool (!q)) (by simp [execOp, ho, g, e1, Result.andThen, Sem.run]) (.atom rfl)⟩
  ·cases h
theorem Z0q {o : Oper} {t : TypeId} {x y : Operand} {yt : TypeId} (ho : o.op = .binOp .rem t x y yt) (hρ : ∀ x, VR ι (ρ x) (ρ' x)) (he : Emb P ι s.h.get w) (hob : ∀ p ∈ s'.ob, p.1 = p.2) (h : ZoT ρ x y s = some (v, s')) :
  s'.h = s.h ∧ s'.n = s.n ∧ Res P ((execOp ρ' o).run P w) s ι w v s := by
 unfold ZoT at h
 split at h
 ·rename_i k a k' b hx hy
  injection h with h
  injection h with h1 h2
  subst h1 h2
  obtain ⟨hk, hb⟩ := Zac.1 (hob (dP (k = k' ∧ b ≠ 0), true) (by simp [St.told]))
  subst hk
  have hx' : ρ' x = .int k a := by have := hρ x; rw [hx] at this; exact this.eq_of_atom rfl
  have hy' : ρ' y = .int k b := by have := hρ y; rw [hy] at this; exact this.eq_of_atom rfl
  have g : (eqGuard .rem t x y (.int k a) (.int k b)).run P w = .ok () w := rfl
  have e1 : (binOp .rem t (.int k a) (.int k b)).run P w = .ok (.int k (Int.tmod a b)) w := by
   simp [binOp, Op.intDiv, hb, Sem.run]
  exact ⟨rfl, rfl, Res.same he (v' := .int k (Int.tmod a b)) (by simp [execOp, ho, hx', hy', g, e1, Result.andThen, Sem.run]) (.atom rfl)⟩
 ·cases h
theorem Zvs {o : Oper} {op : BinOp} {n : Nat} {t : TypeId} {x y : Operand} {yt : TypeId} (ho : o.op = .binOp op t x y yt) (hρ : ∀ x, VR ι (ρ x) (ρ' x)) (he : Emb P ι s.h.get w) (hob : ∀ p ∈ s'.ob, p.1 = p.2) (h : Zq0 ρ op x y n s = some (v, s')) :
  s'.h = s.h ∧ s'.n = s.n ∧ Res P ((execOp ρ' o).run P w) s ι w v s := by
 unfold Zq0 at h
 split at h
 ·rename_i k a k' b hx hy
  injection h with h
  injection h with h1 h2
  subst h1 h2
  obtain ⟨hb, hn⟩ := Zac.1 (hob (dP (b = Int.ofNat n ∧ n ≤ k.bits), true) (by simp [St.told]))
  have hx' : ρ' x = .int k a := by have := hρ x; rw [hx] at this; exact this.eq_of_atom rfl
  have hy' : ρ' y = .int k' b := by have := hρ y; rw [hy] at this; exact this.eq_of_atom rfl
  have g : (eqGuard .shl t x y (.int k a) (.int k' b)).run P w = .ok () w := rfl
  have e1 : (binOp .shl t (.int k a) (.int k' b)).run P w = .ok (.int k (k.wrap (a * 2 ^ n))) w := by
   subst hb
   show (Op.shift .shl k a k' (Int.ofNat n)).run P w = _
   have hm : min n k.bits = n := by omega
   have h0 : ¬ ((n : Int) < 0) := by omega
   simp [Op.shift, Sem.run, hm, h0]
  exact ⟨rfl, rfl, Res.same he (v' := .int k (k.wrap (a * 2 ^ n))) (by simp [execOp, ho, hx', hy', g, e1, Result.andThen, Sem.run]) (.atom rfl)⟩
 ·rename_i k a k' b hx hy
  injection h with h
  injection h with h1 h2
  subst h1 h2
  obtain ⟨hb, hn⟩ := Zac.1 (hob (dP (b = Int.ofNat n ∧ n ≤ k.bits), true) (by simp [St.told]))
  have hx' : ρ' x = .int k a := by have := hρ x; rw [hx] at this; exact this.eq_of_atom rfl
  have hy' : ρ' y = .int k' b := by have := hρ y; rw [hy] at this; exact this.eq_of_atom rfl
  have g : (eqGuard .shr t x y (.int k a) (.int k' b)).run P w = .ok () w := rfl
  have e1 : (binOp .shr t (.int k a) (.int k' b)).run P w = .ok (.int k (a / 2 ^ n)) w := by
   subst hb
   show (Op.shift .shr k a k' (Int.ofNat n)).run P w = _
   have hm : min n k.bits = n := by omega
   have h0 : ¬ ((n : Int) < 0) := by omega
   have hp : (0 : Int) ≤ 2 ^ n := Int.pow_nonneg (by decide)
   simp [Op.shift, Sem.run, hm, h0, Int.fdiv_eq_ediv_of_nonneg _ hp]
  exact ⟨rfl, rfl, Res.same he (v' := .int k (a / 2 ^ n)) (by simp [execOp, ho, hx', hy', g, e1, Result.andThen, Sem.run]) (.atom rfl)⟩
 ·cases h
theorem Z1f {o : Oper} {t : TypeId} {x y : Operand} {yt : TypeId} (ho : o.op = .binOp .add t x y yt) (hρ : ∀ x, VR ι (ρ x) (ρ' x)) (he : Emb P ι s.h.get w) (hob : ∀ p ∈ s'.ob, p.1 = p.2) (h : ZsN ρ x y s = some (v, s')) :
  s'.h = s.h ∧ s'.n = s.n ∧ Res P ((execOp ρ' o).run P w) s ι w v s := by
 unfold ZsN at h
 split at h
 ·rename_i a b hx hy
  injection h with h
  injection h with h1 h2
  subst h1 h2
  have hs := Zac.1 (hob (dP (((a.size + b.size : Nat) : Int) ≤ IntKind.i64.max), true) (by simp [St.told]))
  have hx' : ρ' x = .string a := by have := hρ x; rw [hx] at this; exact this.eq_of_atom rfl
  have hy' : ρ' y = .string b := by have := hρ y; rw [hy] at this; exact this.eq_of_atom rfl
  have g : (eqGuard .add t x y (.string a) (.string b)).run P w = .ok () w := rfl
  have e1 : (binOp .add t (.string a) (.string b)).run P w = .ok (.string (a ++ b)) w := by
   show (Op.stringOp .add a b).run P w = _
   simp only [Op.stringOp]
   rw [if_neg (by omega)]
   simp [Sem.run]
  exact ⟨rfl, rfl, Res.same he (v' := .string (a ++ b)) (by simp [execOp, ho, hx', hy', g, e1, Result.andThen, Sem.run]) (.atom rfl)⟩
 ·cases h
theorem Zq4 (hρ : ∀ x, VR ι (ρ x) (ρ' x)) (a : Array Operand) : VRs ι (a.map ρ) (a.map ρ') := by
 refine ⟨by simp, fun i x y hx hy => ?_⟩
 simp only [Array.getElem?_map] at hx hy
 cases hi : a[i]? with
 | none => rw [hi] at hx; cases hx
 | some z => rw [hi] at hx hy; injection hx with hx; injection hy with hy; subst hx hy; exact hρ z
theorem ZvC {t tx ty : TypeId} {x y x' y' : Value} {m : Nat} {l c0 c : List Value} {s1 : St} (hx : VR ι x x') (hy : VR ι y y') (he : Emb P ι s.h.get w) (hf : Fresh ι s.n s'.n) (hob : ∀ p ∈ s'.ob, p.1 = p.2) (e1 : s1.h = s.h) (e2 : s1.n = s.n) (h : Zm0 P s1 t tx x y m l c0 c = some (v, s')) :
  ∃ v' w' ι', (Builtin.append_ #[t, tx] ty #[x', y']).run P w = .ok v' w' ∧ Step P ι s.h.get w ι' s'.h.get w' ∧ Dom ι ι' s.n s'.n ∧ VR ι' v v' := by
 unfold Zm0 at h
 split at h
 ·rename_i v0 s2 ht
  split at h
  ·rename_i cl e q hk
   injection h with h
   injection h with h1 h2
   subst h1 h2
   have hc := Zac.1 (hob (dP (cl.map (nlV 0) = c), true) (by simp [St.told]))
   subst hc
   obtain ⟨s3, h4, e3, e4⟩ := Znt (fun p hp => hob p (by simp only [St.told]; exact List.mem_cons_of_mem _ hp)) ht
   obtain ⟨v', w', ι', r1, r2, r3, r4⟩ := Zef (ty := ty) hx hy (e1 ▸ he) (e2 ▸ e4 ▸ hf) h4
   have hm := Step.mapC r2.emb (e3 ▸ hk) (g := nlV 0) (fun {_ _} q => Z0Z 0 q)
   refine ⟨v', w', ι', r1, ?_, ?_, r4⟩
   ·have hh : (s2.h.set s1.n (some (.cells (cl.map (nlV 0)) e q))).get = upd s3.h.get s1.n (some (.cells (cl.map (nlV 0)) e q)) := by rw [← e3]; exact Tr.get_set ..
    show Step P ι s.h.get w ι' (s2.h.set s1.n (some (.cells (cl.map (nlV 0)) e q))).get w'
    rw [hh, ← e1]
    exact r2.trans hm
   ·show Dom ι ι' s.n s2.n
    rw [e4, ← e2]; exact r3
  ·cases h
 ·cases h
theorem ZvD {t tx ty : TypeId} {x y x' y' : Value} {m : Nat} {l c : List Value} {cs : List Cell} {s1 : St} (hx : VR ι x x') (hy : VR ι y y') (he : Emb P ι s.h.get w) (hf : Fresh ι s.n s'.n) (hob : ∀ p ∈ s'.ob, p.1 = p.2) (e1 : s1.h = s.h) (e2 : s1.n = s.n) (h : Zmz P s1 t tx x y m l c cs = some (v, s')) :
  ∃ v' w' ι', (Builtin.append_ #[t, tx] ty #[x', y']).run P w = .ok v' w' ∧ Step P ι s.h.get w ι' s'.h.get w' ∧ Dom ι ι' s.n s'.n ∧ VR ι' v v' := by
 unfold Zmz at h
 split at h
 ·rename_i j n1 n2 s2 ht
  obtain ⟨hj, h⟩ := Zp h
  split at h
  ·rename_i cl e hk
   injection h with h
   injection h with h1 h2
   subst h1 h2
   obtain ⟨q1, q2, q3⟩ := Zac.1 (hob (dP (n1 = m ∧ n2 = m ∧ cl = Zw cs), true) (by simp [St.told]))
   subst q1 q2 q3
   obtain ⟨s3, h4, e3, e4⟩ := Znt (fun p hp => hob p (by simp only [St.told]; exact List.mem_cons_of_mem _ hp)) ht
   obtain ⟨v', w', ι', r1, r2, r3, r4⟩ := Zef (ty := ty) hx hy (e1 ▸ he) (e2 ▸ e4 ▸ hf) h4
   obtain ⟨ι2, hst, hm, hdm⟩ := Step.frz r2.emb (e3 ▸ hk)
   have hv := Zuh hst.ext hm 0 r4
   have ej : ZoQ s1.n (code cs) 0 (.slice (some ⟨j, 0, none⟩) n2 n2) = .slice (some ⟨code cs, 0, some 0⟩) n2 n2 := by
    show (bif Nat.beq j s1.n then _ else _) = _
    rw [hj]; rfl
   rw [ej] at hv
   refine ⟨v', w', ι2, r1, ?_, ?_, hv⟩
   ·have hh : (s2.h.set s1.n none).get = upd s3.h.get s1.n none := by rw [← e3]; exact Tr.get_set ..
    show Step P ι s.h.get w ι2 (s2.h.set s1.n none).get w'
    rw [hh, ← e1]
    exact r2.trans hst
   ·show Dom ι ι2 s.n s2.n
    rw [e4, ← e2]
    exact fun k hk => (hdm k hk).elim (fun q => r3 k q) fun q => .inr (.inr q)
  ·cases h
 ·cases h
theorem ZvE {o : Oper} {c : Call} {b : Builtin} (ho : o.op = .call c) (hc : c.callee = .builtin b) (hρ : ∀ x, VR ι (ρ x) (ρ' x)) (he : Emb P ι s.h.get w) (hf : Fresh ι s.n s'.n) (hob : ∀ p ∈ s'.ob, p.1 = p.2) (h : Zju P ρ o c b s = some (v, s')) :
  Res P ((execOp ρ' o).run P w) s ι w v s' := by
 have hs : ∀ cs b, o.op ≠ .select cs b := fun cs b e => by rw [ho] at e; cases e
 obtain ⟨cs, hrun⟩ : ∃ cs, (execOp ρ' o).run P w = (builtin b c.argTypes o.type cs (c.args.map ρ')).run P w := ⟨_, by
  simp [execOp, ho, resolve, hc, invoke, Result.andThen, Sem.run]
  rfl⟩
 unfold Zju at h
 split at h
 ·split at h
  ·rename_i t tx x y ht hx
   obtain ⟨v', w', ι', hr, h1, h2, h3⟩ : ∃ v' w' ι', (Builtin.append_ #[t, tx] o.type #[ρ' x, ρ' y]).run P w = .ok v' w' ∧ Step P ι s.h.get w ι' s'.h.get w' ∧ Dom ι ι' s.n s'.n ∧ VR ι' v v' := by
    split at h
    ·rename_i s1 hw
     obtain ⟨e1, e2, _⟩ := Zad hw
     obtain ⟨s2, h4, e3, e4⟩ := Znt hob h
     have := Zef (ty := o.type) (hρ x) (hρ y) (e1 ▸ he) (e2 ▸ e4 ▸ hf) h4
     rw [e3, e4, ← e1, ← e2]
     exact this
    ·rename_i s1 hw
     obtain ⟨e1, e2, _⟩ := Zad hw
     obtain ⟨s2, h4, e3, e4⟩ := ZyJ hob h
     have := Zef (ty := o.type) (hρ x) (hρ y) (e1 ▸ he) (e2 ▸ e4 ▸ hf) h4
     rw [e3, e4, ← e1, ← e2]
     exact this
    ·rename_i s1 hw
     obtain ⟨e1, e2, _⟩ := Zad hw
     obtain ⟨s2, h4, e3, e4⟩ := ZyK hob h
     have := Zef (ty := o.type) (hρ x) (hρ y) (e1 ▸ he) (e2 ▸ e4 ▸ hf) h4
     rw [e3, e4, ← e1, ← e2]
     exact this
    ·rename_i s1 hw
     obtain ⟨e1, e2, _⟩ := Zad hw
     exact ZvD (hρ x) (hρ y) he hf hob e1 e2 h
    ·rename_i s1 hw
     obtain ⟨e1, e2, _⟩ := Zad hw
     exact ZvC (hρ x) (hρ y) he hf hob e1 e2 h
    ·cases h
    ·rename_i s1 hw
     obtain ⟨e1, e2, _⟩ := Zad hw
     have := Zef (ty := o.type) (hρ x) (hρ y) (e1 ▸ he) (e2 ▸ hf) h
     rw [← e1, ← e2]
     exact this
   refine ⟨.value v', w', ι', v', ?_, .inl rfl, h1, h2, h3⟩
   have e1 : c.argTypes = #[t, tx] := by rw [← Array.toArray_toList (xs := c.argTypes), ht]
   have e2 : c.args.map ρ' = #[ρ' x, ρ' y] := by rw [← Array.toArray_toList (xs := c.args), hx]; simp
   rw [hrun, e1, e2]
   simp [builtin, hr, Result.andThen, Sem.run]
  ·cases h
 ·split at h
  ·rename_i t x ht hx
   split at h
   ·rename_i e a n k hu hxx
    injection h with h
    injection h with h1 h2
    subst h1 h2
    have e1 : c.argTypes = #[t] := by rw [← Array.toArray_toList (xs := c.argTypes), ht]
    have e2 : c.args.map ρ' = #[ρ' x] := by rw [← Array.toArray_toList (xs := c.args), hx]; simp
    have hv := hxx ▸ hρ x
    have hl : ∃ a' c', ρ' x = .slice a' n c' := by
     generalize ρ' x = x' at hv
     cases hv with
     | atom h => simp [Ev.atom] at h
     | slice => exact ⟨_, _, rfl⟩
     | slice0 => exact ⟨_, _, rfl⟩
     | mslice => exact ⟨_, _, rfl⟩
    obtain ⟨a', c', hl⟩ := hl
    refine Res.same he (v' := goInt n) ?_ (.atom rfl)
    rw [hrun, e1, e2, hl]
    simp [builtin, Builtin.len_, run_underlying hu, Result.andThen, Sem.run]
   ·rename_i kt et b0 hu hxx
    split at h
    ·rename_i es hes
     injection h with h
     injection h with h1 h2
     subst h1 h2
     have e1 : c.argTypes = #[t] := by rw [← Array.toArray_toList (xs := c.argTypes), ht]
     have e2 : c.args.map ρ' = #[ρ' x] := by rw [← Array.toArray_toList (xs := c.args), hx]; simp
     refine Res.same he (v' := goInt es.length) ?_ (.atom rfl)
     rw [hrun, e1, e2]
     simp [builtin, Zxf (ty := o.type) hu (hxx ▸ hρ x) he hes, Result.andThen, Sem.run]
    ·cases h
   ·exact (Zcn hs hρ he h).2
  ·cases h
 ·split at h
  ·rename_i t t2 x k ht hx
   have e1 : c.argTypes = #[t, t2] := by rw [← Array.toArray_toList (xs := c.argTypes), ht]
   have e2 : c.args.map ρ' = #[ρ' x, ρ' k] := by rw [← Array.toArray_toList (xs := c.args), hx]; simp
   obtain ⟨w', q1, q2, q3, rfl⟩ := Zxe (t2 := t2) (ty := o.type) (hρ x) (hρ k) he h
   refine ⟨.value (.tuple #[]), w', ι, .tuple #[], ?_, .inl rfl, q2, q3 ▸ Dom.refl, VR.of_free rfl⟩
   rw [hrun, e1, e2]
   simp [builtin, q1, Result.andThen, Sem.run]
  ·cases h
 ·split at h
  ·rename_i t x ht hx
   have e1 : c.argTypes = #[t] := by rw [← Array.toArray_toList (xs := c.argTypes), ht]
   have e2 : c.args.map ρ' = #[ρ' x] := by rw [← Array.toArray_toList (xs := c.args), hx]; simp
   obtain ⟨w', q1, q2, q3, rfl⟩ := ZyN (ty := o.type) (hρ x) he h
   refine ⟨.value (.tuple #[]), w', ι, .tuple #[], ?_, .inl rfl, q2, q3 ▸ Dom.refl, VR.of_free rfl⟩
   rw [hrun, e1, e2]
   simp [builtin, q1, Result.andThen, Sem.run]
  ·cases h
 ·exact (Zcn hs hρ he h).2
theorem Zuj {o : Oper} {x : Operand} (ho : o.op = .nilCheck x) (hρ : ∀ x, VR ι (ρ x) (ρ' x)) (he : Emb P ι s.h.get w) (h : (match ρ x with
  | .pointer (some a) => some ((.pointer (some a) : Value), s)
  | .func (.func f) a b => some (.func (.func f) a b, s)
  | _ => none) = some (v, s')) : s' = s ∧ Res P ((execOp ρ' o).run P w) s ι w v s' := by
 split at h
 ·rename_i a hx
  injection h with h
  injection h with h1 h2
  subst h1 h2
  have hv := hx ▸ hρ x
  refine ⟨rfl, Res.same he (v' := ρ' x) ?_ hv⟩
  have : ∃ a', ρ' x = .pointer (some a') := by
   generalize ρ' x = x' at hv
   cases hv with
   | atom h => simp [Ev.atom] at h
   | ptr h => exact ⟨_, rfl⟩
   | mptr h => exact ⟨_, rfl⟩
  obtain ⟨a', hx'⟩ := this
  simp [execOp, ho, hx', Sem.run]
 ·rename_i f a b hx
  injection h with h
  injection h with h1 h2
  subst h1 h2
  have hv := hx ▸ hρ x
  refine ⟨rfl, Res.same he (v' := ρ' x) ?_ hv⟩
  have : ∃ a' b', ρ' x = .func (.func f) a' b' := by
   generalize ρ' x = x' at hv
   cases hv with
   | atom h => exact ⟨_, _, rfl⟩
   | func => exact ⟨_, _, rfl⟩
  obtain ⟨a', b', hx'⟩ := this
  simp [execOp, ho, hx', Sem.run]
 ·cases h
theorem Zpf : ∀ {l : List Value} {ns : List Int}, Zm5 l = some ns → l = ns.map (Value.int .u8)
 | [], ns, h => by simp [Zm5] at h; subst h; rfl
 | x :: l, ns, h => by
  unfold Zm5 at h
  split at h
  ·cases ‹_ :: _ = []›
  ·rename_i n l' hx
   injection hx with h1 h2
   subst h1 h2
   split at h
   ·rename_i r hr
    injection h with h
    subst h
    rw [Zpf hr]
    rfl
   ·cases h
  ·cases h
theorem Zuk {o : Oper} {a b : TypeId} {x : Operand} {ns : List Int} (ho : o.op = .convert a b x) (hρ : ∀ x, VR ι (ρ x) (ρ' x)) (he : Emb P ι s.h.get w) (hob : ∀ p ∈ s'.ob, p.1 = p.2) (h : Zie P ρ a b x ns s = some (v, s')) :
  s'.h = s.h ∧ s'.n = s.n ∧ Res P ((execOp ρ' o).run P w) s ι w v s := by
 unfold Zie at h
 split at h
 ·rename_i e k o' n c hua hub hx
  split at h
  ·rename_i hue
   injection h with h
   injection h with h1 h2
   subst h1 h2
   have hl := Zac.1 (hob (dP (ZoP s k o' n = some (ns.map (Value.int .u8))), true) (by simp [St.told]))
   obtain ⟨bk, cs, hb, hcl, hll, hcs, hvv⟩ := Zvk he hl
   have hcs' : cs = ns.map (Value.int .u8) := by
    apply List.ext_getElem (by omega)
    intro i h1 h2
    have hq := hvv i (ns.map (Value.int .u8))[i] cs[i] (List.getElem?_eq_getElem h2) (List.getElem?_eq_getElem h1)
    rw [List.getElem_map] at hq ⊢
    exact hq.int_inv
   have hv := hx ▸ hρ x
   have : ∃ a' c', ρ' x = .slice a' n c' ∧ (Conv.bytesToString (.slice a' n c')).run P w = .ok (.string (ns.foldl (fun r n => r.push (UInt8.ofNat n.toNat)) ByteArray.empty)) w := by
    generalize ρ' x = x' at hv
    cases hv with
    | atom h => simp [Ev.atom] at h
    | slice hb2 hn hc hq =>
     rename_i b2 c'
     rw [hb] at hb2; injection hb2 with hb2; subst hb2
     refine ⟨_, _, rfl, ?_⟩
     have := run_loadCells_list (P := P) w ⟨bk.1, o', none⟩ cs hcs
     rw [hcl] at this
     rw [hcs'] at this
     exact run_bytesToString w _ n c' ns this
    | slice0 _h0 =>
     rename_i a'
     have : ns = [] := List.eq_nil_of_length_eq_zero (by simpa using hll)
     subst this
     cases a' with
     | none => exact ⟨none, 0, rfl, rfl⟩
     | some a' => exact ⟨some a', 0, rfl, run_bytesToString w a' 0 0 [] rfl⟩
   obtain ⟨a', c', hx', hrun⟩ := this
   refine ⟨rfl, rfl, Res.same he (v' := .string _) ?_ (.atom rfl)⟩
   simp [execOp, ho, hx', run_convert_bytes_string w a b e a' n c' hua hue hub, hrun, Result.andThen, Sem.run]
  ·cases h
 ·rename_i e id o' z n c hua hub hx
  split at h
  ·rename_i hue
   injection h with h
   injection h with h1 h2
   subst h1 h2
   have hl := Zac.1 (hob (dP (Zay id o' n = some (ns.map (Cell.k .u8))), true) (by simp [St.told]))
   have hv := hx ▸ hρ x
   have : ∃ a' c', ρ' x = .slice a' n c' ∧ (Conv.bytesToString (.slice a' n c')).run P w = .ok (.string (ns.foldl (fun r n => r.push (UInt8.ofNat n.toNat)) ByteArray.empty)) w := by
    generalize ρ' x = x' at hv
    cases hv with
    | atom h => simp [Ev.atom] at h
    | mslice hb hn hc =>
     rename_i b base c' q
     obtain ⟨cs, hcl, hll, hcs, hvv⟩ := ZoY (q := 0) he hb hl
     have ecell : Zw (ns.map (Cell.k .u8)) = ns.map (Value.int .u8) := by unfold Zw; rw [List.map_map]; rfl
     have hcs' : cs = ns.map (Value.int .u8) := by
      rw [ecell] at hvv
      rw [List.length_map] at hll
      apply List.ext_getElem (by simp; omega)
      intro i h1 h2
      have hq := hvv i (ns.map (Value.int .u8))[i] cs[i] (List.getElem?_eq_getElem h2) (List.getElem?_eq_getElem h1)
      rw [List.getElem_map] at hq ⊢
      exact hq.int_inv
     refine ⟨_, _, rfl, ?_⟩
     have := run_loadCells_list (P := P) w ⟨b, base + o', none⟩ cs hcs
     rw [hcl] at this
     rw [hcs'] at this
     exact run_bytesToString w _ n c' ns this
    | slice0 _h0 =>
     rename_i a'
     have : ns = [] := by
      unfold Zay at hl
      split at hl
      ·injection hl with hl
       simpa using hl.symm
      ·cases hl
     subst this
     cases a' with
     | none => exact ⟨none, 0, rfl, rfl⟩
     | some a' => exact ⟨some a', 0, rfl, run_bytesToString w a' 0 0 [] rfl⟩
   obtain ⟨a', c', hx', hrun⟩ := this
   refine ⟨rfl, rfl, Res.same he (v' := .string _) ?_ (.atom rfl)⟩
   simp [execOp, ho, hx', run_convert_bytes_string w a b e a' n c' hua hue hub, hrun, Result.andThen, Sem.run]
  ·cases h
 ·cases h
theorem Zlz {src dst u t : TypeId} {i j : TypeInfo} {w : World} {b : Nat} {C : Array Value} {fr : Nat × Nat} (hs : P.underlying src = some .unsafePointer) (hd : P.underlying dst = some (.pointer u)) (hi : P.info? u = some i) (h0 : 0 < i.size) (hsub : Z1O P t u = true) (hj : P.info? t = some j) (hj0 : 0 < j.size)
  (hB : w.heap[b]? = some (.cells C t fr)) (hC : j.size ≤ C.size) : (convert src dst (.pointer (some ⟨b, 0, none⟩))).run P w = .ok (.pointer (some ⟨b, 0, none⟩)) w := by
 have hsh : w.shape? b = some (t, C.size) := by simp [World.shape?, hB]
 have hc : P.cellsOf t = j.size := by simp [Program.cellsOf, hj]
 have hcu : P.cellsOf u = i.size := by simp [Program.cellsOf, hi]
 have hl : liesAt P P.depth t (C.size / P.cellsOf t) 0 u 1 = true := by
  have hd : P.depth = (2 * (P.types.size + Made.depth) + 1) + 1 := rfl
  rw [hd]
  simp only [liesAt, Bool.or_eq_true]
  left
  rw [hd]
  have h1 : 1 ≤ C.size / j.size := (Nat.le_div_iff_mul_le hj0).2 (by omega)
  have h2 : j.size ≠ 0 := by omega
  have h3 : i.size ≠ 0 := by omega
  unfold Z1O at hsub
  rw [Bool.or_eq_true] at hsub
  rcases hsub with hsub | hsub
  ·obtain rfl := Nat.eq_of_beq_eq_true hsub
   simp [Go.rowAt, hc, sameLayout, h2, h1]
  ·split at hsub
   ·rename_i fs hfs
    rw [Bool.and_eq_true] at hsub
    obtain ⟨hst, hsub⟩ := hsub
    split at hsub
    ·rename_i f hf
     rw [Bool.and_eq_true] at hsub
     have e1 := Nat.eq_of_beq_eq_true hsub.1
     have e2 := Nat.eq_of_beq_eq_true hsub.2
     have hm : f ∈ fs := Array.mem_of_getElem? hf
     have hin : Go.rowAt P (fun x => sameLayout P (2 * (P.types.size + Made.depth) + 1 + 1) x u) (2 * (P.types.size + Made.depth) + 1) u 1 0 1 = true := by
      simp [Go.rowAt, hcu, sameLayout, h3]
     unfold Go.rowAt
     simp only [hc, h2, if_false, Nat.zero_div, Nat.zero_mod, hfs, Bool.or_eq_true, Bool.and_eq_true, decide_eq_true_eq]
     right
     refine ⟨by omega, hst, ?_⟩
     rw [Array.any_eq_true']
     refine ⟨f, hm, ?_⟩
     rw [e1, e2, hcu]
     simp only [Nat.zero_add, Nat.sub_zero, Nat.le_refl, decide_true, Bool.true_and]
     rw [hin]
     simpa using h0
    ·cases hsub
   ·cases hsub
 have hz : i.size ≠ 0 := by omega
 simp [convert, Conv.unsafePointer, Conv.seenAt, viewAt, cellsIn, sizeOf, typeInfo, run_underlying hs, run_underlying hd, hi, hz, hsh, variablesAt, hl, Result.andThen]
theorem ZnT {o : Oper} {a b : TypeId} {x : Operand} (ho : o.op = .convert a b x) (hρ : ∀ x, VR ι (ρ x) (ρ' x)) (he : Emb P ι s.h.get w) (h : ZhX P ρ a b x s = some (v, s')) :
  s' = s ∧ Res P ((execOp ρ' o).run P w) s ι w v s' := by
 unfold ZhX at h
 split at h
 ·rename_i e k o' n c hua hub hx
  split at h
  ·rename_i l hue hl
   split at h
   ·rename_i ns hns
    injection h with h
    injection h with h1 h2
    subst h1 h2
    have hbs := Zpf hns
    obtain ⟨bk, cs, hb, hcl, hll, hcs, hvv⟩ := Znr he hl
    have hcs' : cs = ns.map (Value.int .u8) := by
     rw [← hbs]
     apply List.ext_getElem (by omega)
     intro i h1 h2
     have hq := hvv i l[i] cs[i] (List.getElem?_eq_getElem h2) (List.getElem?_eq_getElem h1)
     have hli : l[i] = .int .u8 (ns[i]'(by rw [hbs] at h2; simpa using h2)) := by simp [hbs]
     rw [hli] at hq ⊢
     exact hq.int_inv
    have hv := hx ▸ hρ x
    have : ∃ a' c', ρ' x = .slice a' n c' ∧ (Conv.bytesToString (.slice a' n c')).run P w = .ok (.string (ns.foldl (fun r n => r.push (UInt8.ofNat n.toNat)) ByteArray.empty)) w := by
     generalize ρ' x = x' at hv
     cases hv with
     | atom h => simp [Ev.atom] at h
     | slice hb2 hn hc hq =>
      rename_i b2 c'
      rw [hb] at hb2; injection hb2 with hb2; subst hb2
      refine ⟨_, _, rfl, ?_⟩
      have := run_loadCells_list (P := P) w ⟨bk.1, o', none⟩ cs hcs
      rw [hcl] at this
      rw [hcs'] at this
      exact run_bytesToString w _ n c' ns this
     | slice0 _h0 =>
      rename_i a'
      have : ns = [] := List.eq_nil_of_length_eq_zero (by rw [hbs] at hll; simpa using hll)
      subst this
      cases a' with
      | none => exact ⟨none, 0, rfl, rfl⟩
      | some a' => exact ⟨some a', 0, rfl, run_bytesToString w a' 0 0 [] rfl⟩
    obtain ⟨a', c', hx', hrun⟩ := this
    refine ⟨rfl, Res.same he (v' := .string _) ?_ (.atom rfl)⟩
    simp [execOp, ho, hx', run_convert_bytes_string w a b e a' n c' hua hue hub, hrun, Result.andThen, Sem.run]
   ·cases h
  ·cases h
 ·rename_i t k o' hua hub hx
  split at h
  ·rename_i i u hi hrow
   obtain ⟨hz, h⟩ := (show ∀ {b : Bool} {x : Option (Value × St)} {y : Value × St}, (bif b then none else x) = some y → b = false ∧ x = some y from fun {b x y} h => by cases b <;> simp at h; exact ⟨rfl, h⟩) h
   injection h with h
   injection h with h1 h2
   subst h1 h2
   obtain ⟨bk, C, tt, hbk, hB, hl, hxx⟩ := Znq he hrow
   obtain ⟨y, hy, hv⟩ := hxx 0 _ rfl
   obtain ⟨b', hb', hp⟩ := (hx ▸ hρ x).ptr_inv
   rw [hbk] at hb'; injection hb' with hb'; subst hb'
   have hc : w.cell? ⟨bk.1, o', none⟩ = some y := by
    rw [ZwQ hB]
    simpa using hy
   have hsz : (P.info? t).map (fun i => decide (i.size = 0)) = some false := by
    rw [hi]
    simp only [Option.map_some, Option.some.injEq, decide_eq_false_iff_not]
    intro e
    rw [e] at hz
    simp at hz
   refine ⟨rfl, Res.same he (v' := .pointer (some ⟨bk.1, o', none⟩)) ?_ (.ptr hbk)⟩
   simp [execOp, ho, hp, run_convert_to_unsafe (w := w) hua hub hsz hc, Result.andThen, Sem.run]
  ·cases h
 ·rename_i u k hua hub hx
  split at h
  ·rename_i i c t hi hk
   replace h := Zp h
   obtain ⟨hg, h⟩ := h
   simp only [Bool.and_eq_true] at hg
   have h0 := Nat.le_of_ble_eq_true hg.1
   have hsub := hg.2.1
   have hft := hg.2.2
   unfold Z0U at hft
   split at hft
   case h_2 => cases hft
   rename_i j hj
   rw [Bool.and_eq_true] at hft
   have hj0 := Nat.le_of_ble_eq_true hft.1
   have hc := Nat.le_of_ble_eq_true hft.2
   injection h with h
   injection h with h1 h2
   subst h1 h2
   obtain ⟨bk, C, hbk, hB, hcr, _⟩ := he.objF k c t hk
   obtain ⟨b', hb', hp⟩ := (hx ▸ hρ x).ptr_inv
   rw [hbk] at hb'; injection hb' with hb'; subst hb'
   obtain ⟨fr, hB, _⟩ := hB
   refine ⟨rfl, Res.same he (v' := .pointer (some ⟨bk.1, 0, none⟩)) ?_ (.ptr hbk)⟩
   simp [execOp, ho, hp, Zlz (w := w) hua hub hi h0 hsub hj hj0 hB (by have := hcr.1; omega), Result.andThen, Sem.run]
  ·cases h
 ·cases h
theorem Zxg {o : Oper} {a b : TypeId} {x : Operand} {z : ByteArray} {r : Option Told} (ho : o.op = .convert a b x) (hx : ρ' x = .string z) (he : Emb P ι s.h.get w) (hf : Fresh ι s.n s'.n) (hob : ∀ p ∈ s'.ob, p.1 = p.2) (h : ZkA P a b z r s = some (v, s')) :
  Res P ((execOp ρ' o).run P w) s ι w v s' := by
 unfold ZkA at h
 split at h
 ·rename_i e hua hub
  split at h
  ·rename_i hue
   replace h := Zp h
   obtain ⟨hg, h⟩ := h
   simp only [Bool.and_eq_true] at hg
   obtain rfl : e = u8T := Nat.eq_of_beq_eq_true hg.1
   have hs1 : ∀ i, P.info? u8T = some i → i.size = 1 := fun i hi => by
    have := hg.2
    unfold sz1 at this
    rw [hi] at this
    exact Nat.eq_of_beq_eq_true this
   have hrun : (execOp ρ' o).run P w = .ok (.value (.slice (some ⟨w.heap.size, 0, none⟩) z.size (grownCap w z.size 0 u8T))) (Lib.bytesWorld w u8T z) := by
    simp [execOp, ho, hx, Lib.run_convert_string_bytes w a b u8T z hua hub hue, Result.andThen, Sem.run]
   have hge := grownCap_ge w z.size 0 u8T
   have hbl : (Zgt z).length = z.size := by unfold Zgt; rw [List.length_map, Array.length_toList]; rfl
   have hcr : CR ι (Zgt z) (Lib.bytesCells w u8T z) := by
    refine ⟨by rw [hbl]; unfold Lib.bytesCells; rw [Array.size_append, Array.size_map]; exact Nat.le_add_right _ _, fun i u y hu hy => ?_⟩
    have hi : i < z.size := by have := (List.getElem?_eq_some_iff.1 hu).1; omega
    have hi2 : i < (z.data.map fun b => Value.int .u8 b.toNat).size := by rw [Array.size_map]; exact hi
    unfold Lib.bytesCells at hy
    rw [Array.getElem?_append_left hi2, Array.getElem?_map] at hy
    unfold Zgt at hu
    rw [List.getElem?_map, Array.getElem?_toList] at hu
    rw [hu] at hy
    injection hy with hy
    subst hy
    cases hz : z.data[i]? with
    | none => rw [hz] at hu; cases hu
    | some q => rw [hz] at hu; injection hu with hu; subst hu; exact .atom rfl
   have hcs : (Lib.bytesCells w u8T z).size = grownCap w z.size 0 u8T := by
    unfold Lib.bytesCells
    rw [Array.size_append, Array.size_map, Array.size_replicate]
    show z.size + _ = _
    omega
   have st : s.n < s'.n → Step P ι s.h.get w (upd ι s.n (some (w.heap.size, grownCap w z.size 0 u8T))) (upd s.h.get s.n (some (.cells (Zgt z) u8T))) (Lib.bytesWorld w u8T z) := fun hn =>
    Step.allocG he (Nat.lt_of_lt_of_le hn hf.1) (hf.2 s.n (Nat.le_refl _) hn) u8T hcr _ (fun i hi => by rw [hs1 i hi, hcs]; omega) (fun b hb => Lib.bytesWorld_at_old w u8T z b hb) ⟨_, Lib.bytesWorld_at_new w u8T z, .inr ⟨Nat.le_refl _, rfl⟩⟩ (Lib.bytesWorld_size w u8T z) (by simp [Lib.bytesWorld, World.freeze, World.alloc, World.drew, -World.alloc_eq, -World.drew_eq]) (by simp [Lib.bytesWorld, World.freeze, World.alloc, World.drew, -World.alloc_eq, -World.drew_eq]) (by simp [Lib.bytesWorld, World.freeze, World.alloc, World.drew, -World.alloc_eq, -World.drew_eq])
   have vr : VR (upd ι s.n (some (w.heap.size, grownCap w z.size 0 u8T))) (.slice (some ⟨s.n, 0, none⟩) z.size z.size) (.slice (some ⟨w.heap.size, 0, none⟩) z.size (grownCap w z.size 0 u8T)) :=
    .slice (b := (w.heap.size, grownCap w z.size 0 u8T)) Zo (Nat.le_refl _) hge (fun _ => .inr (Nat.le_refl _))
   split at h
   ·injection h with h; injection h with h1 h2; subst h1 h2
    refine ⟨_, _, _, _, hrun, .inl rfl, ?_, Dom.one, vr⟩
    show Step P ι s.h.get w _ (s.h.set s.n _).get _
    rw [Tr.get_set]; exact st (Nat.lt_succ_self _)
   ·rename_i l cp c
    injection h with h; injection h with h1 h2; subst h1 h2
    obtain ⟨rfl, rfl⟩ := Zac.1 (hob _ (List.mem_cons_self ..))
    refine ⟨_, _, _, _, hrun, .inl rfl, ?_, Dom.one, vr⟩
    show Step P ι s.h.get w _ (s.h.set s.n _).get _
    rw [Tr.get_set]; exact st (Nat.lt_succ_self _)
   ·cases h
  ·cases h
 ·cases h
theorem Z1g {o : Oper} (hρ : ∀ x, VR ι (ρ x) (ρ' x)) (he : Emb P ι s.h.get w) (hf : Fresh ι s.n s'.n) (hob : ∀ p ∈ s'.ob, p.1 = p.2) (h : ev1 P ρ o s = some (v, s')) :
  Res P ((execOp ρ' o).run P w) s ι w v s' := by
 obtain ⟨dst, op, type, pos, after, guard⟩ := o
 cases op
 case move x =>
  simp only [ev1, Option.some.injEq, Prod.mk.injEq] at h
  obtain ⟨rfl, rfl⟩ := h
  exact Res.same he (v' := ρ' x) (by simp [execOp, Sem.run]) (hρ x)
 case assign x =>
  simp only [ev1, Option.some.injEq, Prod.mk.injEq] at h
  obtain ⟨rfl, rfl⟩ := h
  exact Res.same he (v' := ρ' x) (by simp [execOp, Sem.run]) (hρ x)
 case pick c a b =>
  simp only [ev1] at h
  split at h
  ·rename_i t ht
   have hc := (ht ▸ hρ c).bool_inv
   split at h
   ·injection h with h
    injection h with h1 h2
    subst h1 h2
    exact Res.same he (v' := ρ' a) (by simp [execOp, hc, asBool, Result.andThen, Sem.run]) (hρ a)
   ·injection h with h
    injection h with h1 h2
    subst h1 h2
    exact Res.same he (v' := ρ' b) (by simp [execOp, hc, asBool, Result.andThen, Sem.run]) (hρ b)
  ·cases h
 case alloc t =>
  simp only [ev1] at h
  split at h
  ·rename_i z hz
   injection h with h
   injection h with h1 h2
   subst h1 h2
   exact Zy9 rfl he hz hf
  ·cases h
 case box t x =>
  simp only [ev1, Option.some.injEq, Prod.mk.injEq] at h
  obtain ⟨rfl, rfl⟩ := h
  exact Z0W rfl (hρ x) he hf
 case build t ps =>
  simp only [ev1] at h
  obtain ⟨rfl, hr⟩ := ZyE (o := ⟨dst, .build t ps, type, pos, after, guard⟩) rfl hρ he h
  exact hr
 case buildSlice t n ps => exact ZrM (o := ⟨dst, .buildSlice t n ps, type, pos, after, guard⟩) rfl hρ he hf h
 case load t a =>
  simp only [ev1] at h
  split at h
  ·rename_i l s1 hx
   obtain ⟨e1, e2, _⟩ := ZwS hx
   exact Res.heap (ZyC (o := ⟨dst, .load t a, type, pos, after, guard⟩) (s := s1) rfl (hρ a) (e1 ▸ he) hob h) e1.symm e2.symm
  ·rename_i s1 hx
   obtain ⟨e1, e2, _⟩ := ZwS hx
   split at h
   ·rename_i k o ha
    split at h
    ·rename_i u hu
     injection h with h
     injection h with h1 h2
     subst h1 h2
     exact Res.heap (Zns (o := ⟨dst, .load t a, type, pos, after, guard⟩) (s := s1) rfl ha (hρ a) (e1 ▸ he) hu) e1.symm e2.symm
    ·cases h
   ·cases h
 case store t a x =>
  simp only [ev1] at h
  split at h
  ·rename_i c s1 hw
   obtain ⟨e1, e2, _⟩ := Zad hw
   obtain ⟨s2, h4, e3, e4⟩ := Zvl hob h
   exact ((ZlY (o := ⟨dst, .store t a x, type, pos, after, guard⟩) (s := s1) rfl hρ (e1 ▸ he) h4).heap e1.symm e2.symm).behind e3 e4
  ·rename_i k cs c s1 hw
   obtain ⟨e1, e2, _⟩ := Zad hw
   exact Res.heap (Zxb (o := ⟨dst, .store t a x, type, pos, after, guard⟩) (s := s1) rfl hρ (e1 ▸ he) hob h) e1.symm e2.symm
  ·cases h
  ·rename_i s1 hw
   obtain ⟨e1, e2, _⟩ := Zad hw
   exact (ZlY (o := ⟨dst, .store t a x, type, pos, after, guard⟩) (s := s1) rfl hρ (e1 ▸ he) h).heap e1.symm e2.symm
 case nilCheck x =>
  simp only [ev1] at h
  obtain ⟨rfl, hr⟩ := Zuj (o := ⟨dst, .nilCheck x, type, pos, after, guard⟩) rfl hρ he h
  exact hr
 case fieldAddr t x f => obtain ⟨rfl, hr⟩ := ZsR (o := ⟨dst, .fieldAddr t x f, type, pos, after, guard⟩) rfl hρ he h; exact hr
 case field t x f => obtain ⟨rfl, hr⟩ := ZyA (o := ⟨dst, .field t x f, type, pos, after, guard⟩) rfl hρ he h; exact hr
 case index t x ix =>
  simp only [ev1] at h
  split at h
  ·split at h
   ·rename_i c s1 hw
    obtain ⟨e1, e2, _⟩ := Zad hw
    obtain ⟨e3, e4, hq⟩ := ZwX (o := ⟨dst, .index t x ix, type, pos, after, guard⟩) (s := s1) rfl hρ (e1 ▸ he) hob h
    exact (hq.heap e1.symm e2.symm).behind e3 e4
   ·cases h
   ·rename_i s1 hw
    obtain ⟨e1, e2, _⟩ := Zad hw
    obtain ⟨rfl, hr⟩ := Zcn (o := ⟨dst, .index t x ix, type, pos, after, guard⟩) (s := s1) (fun _ _ e => by cases e) hρ (e1 ▸ he) h
    exact hr.heap e1.symm e2.symm
  split at h
  ·rename_i r hr
   injection h with h
   subst h
   obtain ⟨e1, hq⟩ := ZyB (o := ⟨dst, .index t x ix, type, pos, after, guard⟩) rfl hρ he hr
   subst e1
   exact hq
  ·obtain ⟨rfl, hr⟩ := Zcn (o := ⟨dst, .index t x ix, type, pos, after, guard⟩) (fun _ _ e => by cases e) hρ he h; exact hr
 case indexAddr t x ix =>
  simp only [ev1] at h
  split at h
  ·rename_i n s1 hx
   obtain ⟨e1, e2, _⟩ := ZwR hx
   exact Res.heap (ZrL (o := ⟨dst, .indexAddr t x ix, type, pos, after, guard⟩) (s := s1) rfl hρ (e1 ▸ he) hob h) e1.symm e2.symm
  ·rename_i s1 hx
   obtain ⟨e1, e2, _⟩ := ZwR hx
   obtain ⟨rfl, hr⟩ := Zgi (o := ⟨dst, .indexAddr t x ix, type, pos, after, guard⟩) (s := s1) rfl hρ (e1 ▸ he) h
   exact Res.heap hr e1.symm e2.symm
 case extract x i =>
  simp only [ev1] at h
  split at h
  ·rename_i vs hx
   split at h
   ·rename_i u hu
    injection h with h
    injection h with h1 h2
    subst h1 h2
    obtain ⟨vs', hx', hs, hc⟩ := (hx ▸ hρ x).tuple_inv
    have hlt : i < vs'.size := by rw [← hs]; exact (Array.getElem?_eq_some_iff.1 hu).1
    exact Res.same he (v' := vs'[i]) (by simp [execOp, Instr.extract, hx', Array.getElem?_eq_getElem hlt, Result.andThen, Sem.run]) (hc i _ _ hu (Array.getElem?_eq_getElem hlt))
   ·cases h
  ·cases h
 case slice t x lo hi mx =>
  simp only [ev1] at h
  split at h
  ·unfold Z0e at h
   split at h
   ·rename_i l m s1 hw
    obtain ⟨e1, e2, _⟩ := Zad hw
    obtain ⟨h4, e3, e4⟩ := Z0X hob h
    obtain ⟨_, hq⟩ := ZlZ (o := ⟨dst, .slice t x lo hi none, type, pos, after, guard⟩) (s := s1) rfl hρ (e1 ▸ he) h4
    exact (hq.heap e1.symm e2.symm).behind e3 e4
   ·rename_i l m m2 cs s1 hw
    obtain ⟨e1, e2, _⟩ := Zad hw
    obtain ⟨e3, e4, hq⟩ := ZwZ (o := ⟨dst, .slice t x lo hi none, type, pos, after, guard⟩) (s := s1) rfl hρ (e1 ▸ he) hob h
    exact (hq.heap e1.symm e2.symm).behind e3 e4
   ·rename_i m c s1 hw
    obtain ⟨e1, e2, _⟩ := Zad hw
    exact (Z0Y (o := ⟨dst, .slice t x lo hi none, type, pos, after, guard⟩) (s := s1) rfl hρ (e1 ▸ he) (e2 ▸ hf) hob h).heap e1.symm e2.symm
   ·rename_i M s1 hw
    obtain ⟨e1, e2, _⟩ := Zad hw
    obtain ⟨e3, e4, hq⟩ := ZwW (o := ⟨dst, .slice t x lo hi none, type, pos, after, guard⟩) (s := s1) rfl hρ (e1 ▸ he) hob h
    exact (hq.heap e1.symm e2.symm).behind e3 e4
   ·cases h
   ·rename_i s1 hw
    obtain ⟨e1, e2, _⟩ := Zad hw
    split at h
    ·rename_i r hr
     injection h with h
     subst h
     obtain ⟨e1', hq⟩ := ZlZ (o := ⟨dst, .slice t x lo hi none, type, pos, after, guard⟩) (s := s1) rfl hρ (e1 ▸ he) hr
     subst e1'
     exact hq.heap e1.symm e2.symm
    ·split at h
     ·rename_i r hr
      injection h with h
      subst h
      exact (ZwV (o := ⟨dst, .slice t x lo hi none, type, pos, after, guard⟩) (s := s1) rfl hρ (e1 ▸ he) hob hr).heap e1.symm e2.symm
     ·obtain ⟨rfl, hr⟩ := Zcn (o := ⟨dst, .slice t x lo hi none, type, pos, after, guard⟩) (s := s1) (fun _ _ e => by cases e) hρ (e1 ▸ he) h
      exact hr.heap e1.symm e2.symm
  ·cases h
 case binOp op t x y yt =>
  by_cases hop : op = .rem
  ·subst hop
   simp only [ev1] at h
   split at h
   ·rename_i s1 hw
    obtain ⟨e1, e2, _⟩ := Zad hw
    obtain ⟨e3, e4, hr⟩ := Z0q (o := ⟨dst, .binOp .rem t x y yt, type, pos, after, guard⟩) (s := s1) rfl hρ (e1 ▸ he) hob h
    exact (hr.heap e1.symm e2.symm).behind e3 e4
   ·cases h
   ·rename_i s1 hw
    obtain ⟨e1, e2, _⟩ := Zad hw
    obtain ⟨rfl, hr⟩ := Zjx (o := ⟨dst, .binOp .rem t x y yt, type, pos, after, guard⟩) (s := s1) rfl hρ (e1 ▸ he) h
    exact hr.heap e1.symm e2.symm
  ·by_cases hl : op = .shl
   ·subst hl
    simp only [ev1] at h
    split at h
    ·rename_i n s1 hw
     obtain ⟨e1, e2, _⟩ := Zad hw
     obtain ⟨e3, e4, hr⟩ := Zvs (o := ⟨dst, .binOp .shl t x y yt, type, pos, after, guard⟩) (s := s1) rfl hρ (e1 ▸ he) hob h
     exact (hr.heap e1.symm e2.symm).behind e3 e4
    ·cases h
    ·rename_i s1 hw
     obtain ⟨e1, e2, _⟩ := Zad hw
     obtain ⟨rfl, hr⟩ := Zjx (o := ⟨dst, .binOp .shl t x y yt, type, pos, after, guard⟩) (s := s1) rfl hρ (e1 ▸ he) h
     exact hr.heap e1.symm e2.symm
   ·by_cases hr : op = .shr
    ·subst hr
     simp only [ev1] at h
     split at h
     ·rename_i n s1 hw
      obtain ⟨e1, e2, _⟩ := Zad hw
      obtain ⟨e3, e4, hr⟩ := Zvs (o := ⟨dst, .binOp .shr t x y yt, type, pos, after, guard⟩) (s := s1) rfl hρ (e1 ▸ he) hob h
      exact (hr.heap e1.symm e2.symm).behind e3 e4
     ·cases h
     ·rename_i s1 hw
      obtain ⟨e1, e2, _⟩ := Zad hw
      obtain ⟨rfl, hr⟩ := Zjx (o := ⟨dst, .binOp .shr t x y yt, type, pos, after, guard⟩) (s := s1) rfl hρ (e1 ▸ he) h
      exact hr.heap e1.symm e2.symm
    ·by_cases ha : op = .add
     ·subst ha
      simp only [ev1] at h
      split at h
      ·obtain ⟨e3, e4, hr⟩ := Z1f (o := ⟨dst, .binOp .add t x y yt, type, pos, after, guard⟩) rfl hρ he hob h
       exact hr.behind e3 e4
      ·obtain ⟨rfl, hr⟩ := Zjx (o := ⟨dst, .binOp .add t x y yt, type, pos, after, guard⟩) rfl hρ he h
       exact hr
     ·have h : Zjg P ρ ⟨dst, .binOp op t x y yt, type, pos, after, guard⟩ op t x y s = some (v, s') := by cases op <;> first | exact h | exact absurd rfl hop | exact absurd rfl hl | exact absurd rfl hr | exact absurd rfl ha
      obtain ⟨rfl, hr⟩ := Zjx (o := ⟨dst, .binOp op t x y yt, type, pos, after, guard⟩) rfl hρ he h
      exact hr
 case makeSlice t l c =>
  simp only [ev1] at h
  split at h
  ·rename_i n cp cs s1 hw
   obtain ⟨e1, e2, _⟩ := Zad hw
   obtain ⟨s2, h4, e3, e4⟩ := Z1U hob h
   exact ((Zl1 (o := ⟨dst, .makeSlice t l c, type, pos, after, guard⟩) (s := s1) rfl hρ (e1 ▸ he) (e2 ▸ e4 ▸ hf) h4).heap e1.symm e2.symm).behind e3 e4
  ·cases h
  ·rename_i s1 hw
   obtain ⟨e1, e2, _⟩ := Zad hw
   exact (Zl1 (o := ⟨dst, .makeSlice t l c, type, pos, after, guard⟩) (s := s1) rfl hρ (e1 ▸ he) (e2 ▸ hf) h).heap e1.symm e2.symm
 case makeFunc fn a b =>
  simp only [ev1, Option.some.injEq, Prod.mk.injEq] at h
  obtain ⟨rfl, rfl⟩ := h
  have h1 := Zq4 hρ a
  have h2 := Zq4 hρ b
  exact Res.same he (v' := .func fn (a.map ρ') (b.map ρ')) (by simp [execOp, Instr.makeFunc, Result.andThen, Sem.run]) (.func h1.1 h2.1 h1.2 h2.2)
 case makeMap t r =>
  exact ZvB (o := ⟨dst, .makeMap t r, type, pos, after, guard⟩) rfl hρ he hf h
 case range t x =>
  exact ZyM (o := ⟨dst, .range t x, type, pos, after, guard⟩) rfl hρ he hf h
 case next it q =>
  exact Z0n (o := ⟨dst, .next it q, type, pos, after, guard⟩) rfl hρ he h
 case lookup t x ix ok =>
  simp only [ev1] at h
  split at h
  ·rename_i r s1 hw
   obtain ⟨e1, e2, _⟩ := Zad hw
   obtain ⟨s2, h4, e3, e4⟩ := Z0o hob h
   obtain ⟨e5, hr⟩ := Zpd (o := ⟨dst, .lookup t x ix ok, type, pos, after, guard⟩) (s := s1) rfl hρ (e1 ▸ he) h4
   subst e5
   exact (hr.heap e1.symm e2.symm).behind e3 e4
  ·cases h
  ·rename_i s1 hw
   obtain ⟨e1, e2, _⟩ := Zad hw
   obtain ⟨e5, hr⟩ := Zpd (o := ⟨dst, .lookup t x ix ok, type, pos, after, guard⟩) (s := s1) rfl hρ (e1 ▸ he) h
   subst e5
   exact hr.heap e1.symm e2.symm
 case mapUpdate t m k x =>
  simp only [ev1] at h
  split at h
  ·rename_i l s1 hw
   obtain ⟨e1, e2, _⟩ := Zad hw
   obtain ⟨s2, h4, e3, e4⟩ := Z0p hob h
   exact ((Zpe (o := ⟨dst, .mapUpdate t m k x, type, pos, after, guard⟩) (s := s1) rfl hρ (e1 ▸ he) h4).heap e1.symm e2.symm).behind e3 e4
  ·cases h
  ·rename_i s1 hw
   obtain ⟨e1, e2, _⟩ := Zad hw
   exact (Zpe (o := ⟨dst, .mapUpdate t m k x, type, pos, after, guard⟩) (s := s1) rfl hρ (e1 ▸ he) h).heap e1.symm e2.symm
 case makeInterface t x => obtain ⟨rfl, hr⟩ := Zcn (o := ⟨dst, .makeInterface t x, type, pos, after, guard⟩) (fun _ _ e => by cases e) hρ he h; exact hr
 case unOp op t x => obtain ⟨rfl, hr⟩ := Zcn (o := ⟨dst, .unOp op t x, type, pos, after, guard⟩) (fun _ _ e => by cases e) hρ he h; exact hr
 case convert a b x =>
  simp only [ev1] at h
  split at h
  ·split at h
   ·rename_i ns s1 hw
    obtain ⟨e1, e2, _⟩ := Zad hw
    obtain ⟨e3, e4, hr⟩ := Zuk (o := ⟨dst, .convert a b x, type, pos, after, guard⟩) (s := s1) rfl hρ (e1 ▸ he) hob h
    exact (hr.heap e1.symm e2.symm).behind e3 e4
   ·cases h
   ·rename_i s1 hw
    obtain ⟨e1, e2, _⟩ := Zad hw
    obtain ⟨e3, hr⟩ := ZnT (o := ⟨dst, .convert a b x, type, pos, after, guard⟩) (s := s1) rfl hρ (e1 ▸ he) h
    subst e3
    exact hr.heap e1.symm e2.symm
  ·rename_i z hz
   have hz' : ρ' x = .string z := (hz ▸ hρ x).eq_of_atom rfl
   generalize hw : s.nextW = q at h
   obtain ⟨r, s1⟩ := q
   obtain ⟨e1, e2, _⟩ := Zad hw
   simp only at h
   split at h
   ·rename_i r2 hr
    injection h with h
    subst h
    have hq := Zxg (o := ⟨dst, .convert a b x, type, pos, after, guard⟩) (s := s1) rfl hz' (e1 ▸ he) (e2 ▸ hf) hob hr
    exact hq.heap e1.symm e2.symm
   ·obtain ⟨e3, hr⟩ := Zcn (o := ⟨dst, .convert a b x, type, pos, after, guard⟩) (s := s1) (fun _ _ e => by cases e) hρ (e1 ▸ he) h
    subst e3
    exact hr.heap e1.symm e2.symm
  ·split at h
   ·rename_i r hr
    injection h with h
    subst h
    obtain ⟨e1, hq⟩ := ZnT (o := ⟨dst, .convert a b x, type, pos, after, guard⟩) rfl hρ he hr
    subst e1
    exact hq
   ·obtain ⟨rfl, hr⟩ := Zcn (o := ⟨dst, .convert a b x, type, pos, after, guard⟩) (fun _ _ e => by cases e) hρ he h; exact hr
 case call c =>
  simp only [ev1] at h
  split at h
  ·rename_i b hc
   exact ZvE (o := ⟨dst, .call c, type, pos, after, guard⟩) rfl hc hρ he hf hob h
  ·cases h
 all_goals (simp [ev1] at h)
theorem Z2D {o : Oper} {v v1 : Value} {s1 : St} (h : ZwN o v s = (v1, s1)) (hob : ∀ p ∈ s1.ob, p.1 = p.2) : v1 = v ∧ s1.h = s.h ∧ s1.n = s.n := by
 unfold ZwN at h
 split at h
 all_goals first
  | (generalize hq : s.tst _ = q at h; obtain ⟨b, s2⟩ := q; simp only [Prod.mk.injEq] at h; obtain ⟨rfl, rfl⟩ := h; obtain ⟨rfl, e1, e2⟩ := ZoX hq hob; exact ⟨rfl, e1, e2⟩)
  | (generalize hq : s.vst _ = q at h; obtain ⟨b, s2⟩ := q; simp only [Prod.mk.injEq] at h; obtain ⟨rfl, rfl⟩ := h; obtain ⟨rfl, e1, e2⟩ := Z3i hq hob; exact ⟨rfl, e1, e2⟩)
  | (simp only [Prod.mk.injEq] at h; obtain ⟨rfl, rfl⟩ := h; exact ⟨rfl, rfl, rfl⟩)
end

/-! ### Numbers rise, and answers stay -/
theorem Zd9 {a b : List (Bool × Bool)} (h : a <:+ b) (hb : ∀ p ∈ b, p.1 = p.2) : ∀ p ∈ a, p.1 = p.2 := fun p hp => hb p (h.subset hp)
structure Up (s s' : St) : Prop where
 n : s.n ≤ s'.n
 ob : s.ob <:+ s'.ob
 log : ∃ l, s'.wr = l ++ s.wr ∧ ∀ k, k ∉ l → ¬ (s.n ≤ k ∧ k < s'.n) → s'.h.get k = s.h.get k
theorem Up.refl (s : St) : Up s s := ⟨Nat.le_refl _, List.suffix_refl _, [], rfl, fun _ _ _ => rfl⟩
theorem Up.trans {a b c : St} (h : Up a b) (k : Up b c) : Up a c := by
 obtain ⟨l, h1, h2⟩ := h.log
 obtain ⟨m, k1, k2⟩ := k.log
 refine ⟨Nat.le_trans h.n k.n, h.ob.trans k.ob, m ++ l, by rw [k1, h1, List.append_assoc], fun j hj hn => ?_⟩
 have := h.n
 have := k.n
 rw [k2 j (fun e => hj (List.mem_append_left _ e)) (by omega), h2 j (fun e => hj (List.mem_append_right _ e)) (by omega)]
theorem Zjy {s s1 : St} {t b : Bool} (h : s.tst t = (b, s1)) : Up s s1 := by
 unfold St.tst at h
 split at h <;> (injection h with h1 h2; subst h1 h2)
 ·exact Up.refl _
 ·exact ⟨Nat.le_refl _, List.suffix_refl _, [], rfl, fun _ _ _ => rfl⟩
 ·exact ⟨Nat.le_refl _, List.suffix_cons _ _, [], rfl, fun _ _ _ => rfl⟩
theorem Z3k {s s1 : St} {x y : Int} (h : s.vst x = (y, s1)) : Up s s1 := by
 unfold St.vst at h
 split at h <;> (injection h with h1 h2; subst h1 h2)
 ·exact Up.refl _
 ·exact ⟨Nat.le_refl _, List.suffix_refl _, [], rfl, fun _ _ _ => rfl⟩
 ·exact ⟨Nat.le_refl _, List.suffix_cons _ _, [], rfl, fun _ _ _ => rfl⟩
theorem Zcg {s s1 : St} {k o : Nat} {l : List Value} (h : Zdg s k o l = some s1) : Up s s1 := by
 unfold Zdg at h
 split at h
 ·replace h := Zp h
  obtain ⟨_, h⟩ := h
  injection h with h
  subst h
  refine ⟨Nat.le_refl _, List.suffix_refl _, [k], rfl, fun j hj _ => ?_⟩
  show (s.h.set k _).get j = _
  rw [Tr.get_set, Zh (by simpa using hj)]
 ·cases h
section
variable {P : Program} {ρ : Operand → Value} {s s' : St} {v : Value}
theorem Zbc {o : Oper} (h : ZdC P ρ o s = some (v, s')) : Up s s' := by
 unfold ZdC at h
 replace h := (Zp h).2
 split at h
 ·replace h := (Zp h).2
  injection h with h; injection h with h1 h2; subst h1 h2; exact Up.refl _
 ·cases h
theorem up_add {c : List Value} {t : TypeId} : Up s (s.add c t) := ⟨Nat.le_succ _, List.suffix_refl _, [], rfl, fun j _ hn => by
 show (s.h.set s.n _).get j = _
 rw [Tr.get_set, Zh (fun e => hn ⟨by omega, by show j < s.n + 1; omega⟩)]⟩
theorem up_turn {k : Nat} {c : List Value} {t : TypeId} {q : Bool} : Up s (s.turn k c t q) := ⟨Nat.le_succ _, List.suffix_refl _, [k], rfl, fun j hj hn => by
 show ((s.h.set k none).set s.n _).get j = _
 rw [Tr.get_set, Zh (fun e => hn ⟨by omega, by show j < s.n + 1; omega⟩), Tr.get_set, Zh (by simpa using hj)]⟩
theorem Z1h {t tx : TypeId} {x y : Value} (h : Zdq P s t tx x y = some (v, s')) : Up s s' := by
 unfold Zdq at h
 try simp only [cond_eq_ite] at h
 repeat' (split at h)
 all_goals first
  | (cases h; done)
  | (injection h with h; injection h with h1 h2; subst h1 h2; first | exact Up.refl _ | exact up_add | exact up_turn | exact Zcg (by assumption))
  | exact Zbc h
theorem ZvF {t n : Nat} {ps : Array (Nat × Operand)} (h : Zgu P ρ t n ps s = some (v, s')) : Up s s' := by
 unfold Zgu at h
 try simp only [cond_eq_ite] at h
 repeat' (split at h)
 all_goals first
  | (cases h; done)
  | (injection h with h; injection h with h1 h2; subst h1 h2; first | exact Up.refl _ | exact up_add | exact up_turn | exact Zcg (by assumption))
  | exact Zbc h
theorem Z1X {t : Nat} {ps : Array (Nat × Operand)} (h : Zmy P ρ t ps s = some (v, s')) : Up s s' := by
 unfold Zmy at h
 try simp only [cond_eq_ite] at h
 repeat' (split at h)
 all_goals first
  | (cases h; done)
  | (injection h with h; injection h with h1 h2; subst h1 h2; first | exact Up.refl _ | exact up_add | exact up_turn | exact Zcg (by assumption))
  | exact Zbc h
theorem Z1Y {t : Nat} {a x : Operand} (h : ZiO P ρ t a x s = some (v, s')) : Up s s' := by
 unfold ZiO at h
 try simp only [cond_eq_ite] at h
 repeat' (split at h)
 all_goals first
  | (cases h; done)
  | (injection h with h; injection h with h1 h2; subst h1 h2; first | exact Up.refl _ | exact up_add | exact up_turn | exact Zcg (by assumption))
  | exact Zbc h
theorem Zxh {t f : Nat} {x : Operand} (h : Zhs P ρ t x f s = some (v, s')) : Up s s' := by
 unfold Zhs at h
 try simp only [cond_eq_ite] at h
 repeat' (split at h)
 all_goals first
  | (cases h; done)
  | (injection h with h; injection h with h1 h2; subst h1 h2; first | exact Up.refl _ | exact up_add | exact up_turn | exact Zcg (by assumption))
  | exact Zbc h
theorem Z1Z {t f : Nat} {x : Operand} (h : Zm1 P ρ t x f s = some (v, s')) : Up s s' := by
 unfold Zm1 at h
 try simp only [cond_eq_ite] at h
 repeat' (split at h)
 all_goals first
  | (cases h; done)
  | (injection h with h; injection h with h1 h2; subst h1 h2; first | exact Up.refl _ | exact up_add | exact up_turn | exact Zcg (by assumption))
  | exact Zbc h
theorem Z2a {t : Nat} {x ix : Operand} (h : Zm2 P ρ t x ix s = some (v, s')) : Up s s' := by
 unfold Zm2 at h
 try simp only [cond_eq_ite] at h
 repeat' (split at h)
 all_goals first
  | (cases h; done)
  | (injection h with h; injection h with h1 h2; subst h1 h2; first | exact Up.refl _ | exact up_add | exact up_turn | exact Zcg (by assumption))
  | exact Zbc h
theorem Zpg {t : Nat} {x ix : Operand} (h : ZdS P ρ t x ix s = some (v, s')) : Up s s' := by
 unfold ZdS at h
 try simp only [cond_eq_ite] at h
 repeat' (split at h)
 all_goals first
  | (cases h; done)
  | (injection h with h; injection h with h1 h2; subst h1 h2; first | exact Up.refl _ | exact up_add | exact up_turn | exact Zcg (by assumption))
  | exact Zbc h
theorem ZrN {t : Nat} {x : Operand} {lo hi : Option Operand} (h : ZfU P ρ t x lo hi s = some (v, s')) : Up s s' := by
 unfold ZfU at h
 try simp only [cond_eq_ite] at h
 repeat' (split at h)
 all_goals first
  | (cases h; done)
  | (injection h with h; injection h with h1 h2; subst h1 h2; first | exact Up.refl _ | exact up_add | exact up_turn | exact Zcg (by assumption))
  | exact Zbc h
theorem Zxi {t : Nat} {l c : Operand} (h : ZeW P ρ t l c s = some (v, s')) : Up s s' := by
 unfold ZeW at h
 try simp only [cond_eq_ite] at h
 repeat' (split at h)
 all_goals first
  | (cases h; done)
  | (injection h with h; injection h with h1 h2; subst h1 h2; first | exact Up.refl _ | exact up_add | exact up_turn | exact Zcg (by assumption))
  | exact Zbc h
theorem Zta {a b : TypeId} {x : Operand} (h : ZhX P ρ a b x s = some (v, s')) : Up s s' := by
 unfold ZhX at h
 try simp only [cond_eq_ite] at h
 repeat' (split at h)
 all_goals first
  | (cases h; done)
  | (injection h with h; injection h with h1 h2; subst h1 h2; first | exact Up.refl _ | exact up_add | exact up_turn | exact Zcg (by assumption))
  | exact Zbc h
theorem Zxj {o : Oper} {op : BinOp} {t : TypeId} {x y : Operand} (h : Zjg P ρ o op t x y s = some (v, s')) : Up s s' := by
 unfold Zjg at h
 split at h
 ·injection h with h; injection h with h1 h2; subst h1 h2; exact Up.refl _
 ·injection h with h; injection h with h1 h2; subst h1 h2; exact Up.refl _
 split at h
 ·rename_i r hr
  injection h with h; subst h
  exact Zbc hr
 ·split at h <;> first | (cases h; done) | (injection h with h; injection h with h1 h2; subst h1 h2; exact Up.refl _)
theorem ZZ {s s1 : St} {a : Option Told} (h : s.nextW = (a, s1)) : Up s s1 := by
 unfold St.nextW at h
 split at h <;> (injection h with h1 h2; subst h1 h2; exact ⟨Nat.le_refl _, List.suffix_refl _, [], rfl, fun _ _ _ => rfl⟩)
theorem Zaj (q : Bool) : Up s (s.told q) := ⟨Nat.le_refl _, List.suffix_cons _ _, [], rfl, fun _ _ _ => rfl⟩
theorem up_putK {k : Nat} {c : List Value} {t : TypeId} {q : Bool} : Up s (s.putK k c t q) := ⟨Nat.le_refl _, List.suffix_refl _, [k], rfl, fun j hj _ => by
 show (s.h.set k _).get j = _
 rw [Tr.get_set, Zh (by simpa using hj)]⟩
theorem Zvt {t : Nat} {a x : Operand} {c : List Value} (h : ZhC P ρ t a x c s = some (v, s')) : Up s s' := by
 unfold ZhC at h
 try simp only [cond_eq_ite] at h
 repeat' (split at h)
 all_goals first
  | (cases h; done)
  | (injection h with h; injection h with h1 h2; subst h1 h2; exact up_putK.trans (Zaj _))
theorem Z1i {t : Nat} {a x : Operand} {k : Nat} {cs : List Cell} {c : List Value} (h : Zk2 P ρ t a x k cs c s = some (v, s')) : Up s s' := by
 unfold Zk2 at h
 split at h
 ·refine Up.trans (b := (⟨s.h.set k none, s.n, k :: s.wr, s.orc, s.ob⟩ : St)) ⟨Nat.le_refl _, List.suffix_refl _, [k], rfl, fun j hj _ => ?_⟩ ((Zaj _).trans (Zvt h))
  show (s.h.set k none).get j = _
  rw [Tr.get_set, Zh (by simpa using hj)]
 ·cases h
theorem Z2E {x y : Operand} (h : ZoT ρ x y s = some (v, s')) : Up s s' := by
 unfold ZoT at h
 split at h
 ·injection h with h; injection h with h1 h2; subst h1 h2; exact Zaj _
 ·cases h
theorem Z3l {op : BinOp} {x y : Operand} {n : Nat} (h : Zq0 ρ op x y n s = some (v, s')) : Up s s' := by
 unfold Zq0 at h
 split at h
 ·injection h with h; injection h with h1 h2; subst h1 h2; exact Zaj _
 ·injection h with h; injection h with h1 h2; subst h1 h2; exact Zaj _
 ·cases h
theorem Z1j {x y : Operand} (h : ZsN ρ x y s = some (v, s')) : Up s s' := by
 unfold ZsN at h
 split at h
 ·injection h with h; injection h with h1 h2; subst h1 h2; exact Zaj _
 ·cases h
theorem Z1k {t : Nat} {x : Operand} {lo hi : Option Operand} {l m : Nat} (h : Zk5 P ρ t x lo hi l m s = some (v, s')) : Up s s' := by
 unfold Zk5 at h
 try simp only [cond_eq_ite] at h
 repeat' (split at h)
 all_goals first
  | (cases h; done)
  | (injection h with h; injection h with h1 h2; subst h1 h2; exact ((Zaj _).trans (Zaj _)).trans (Zaj _))
theorem Z1l {t : Nat} {x : Operand} {lo hi : Option Operand} {l m m2 : Nat} {cs : List Cell} (h : Zk6 P ρ t x lo hi l m m2 cs s = some (v, s')) : Up s s' := by
 unfold Zk6 at h
 repeat' (split at h)
 all_goals first
  | (cases h; done)
  | (injection h with h; injection h with h1 h2; subst h1 h2; exact ((Zaj _).trans (Zaj _)).trans (Zaj _))
theorem ZyP {a b : TypeId} {x : Operand} {ns : List Int} (h : Zie P ρ a b x ns s = some (v, s')) : Up s s' := by
 unfold Zie at h
 repeat' (split at h)
 all_goals first
  | (cases h; done)
  | (injection h with h; injection h with h1 h2; subst h1 h2; exact Zaj _)
theorem Z2F {t : Nat} {x : Operand} {lo hi : Option Operand} {m : Nat} {c : List Value} (h : ZoR P ρ t x lo hi m c s = some (v, s')) : Up s s' := by
 unfold ZoR at h
 try simp only [cond_eq_ite] at h
 repeat' (split at h)
 all_goals first
  | (cases h; done)
  | (injection h with h; injection h with h1 h2; subst h1 h2; exact ((up_turn.trans (Zaj _)).trans (Zaj _)).trans (Zaj _))
theorem Z2b {t : Nat} {l c : Operand} {n cp : Nat} {cs : List Value} (h : Zm4 P ρ t l c n cp cs s = some (v, s')) : Up s s' := by
 unfold Zm4 at h
 try simp only [cond_eq_ite] at h
 repeat' (split at h)
 all_goals first
  | (cases h; done)
  | (injection h with h; injection h with h1 h2; subst h1 h2; exact ((up_add.trans (Zaj _)).trans (Zaj _)).trans (Zaj _))
theorem Znw {t tx : TypeId} {x y : Value} {m : Nat} {l c : List Value} (h : ZgU P s t tx x y m l c = some (v, s')) : Up s s' := by
 unfold ZgU at h
 try simp only [cond_eq_ite] at h
 repeat' (split at h)
 all_goals first
  | (cases h; done)
  | (injection h with h; injection h with h1 h2; subst h1 h2; first | exact up_add.trans (Zaj _) | exact up_turn.trans (Zaj _))
theorem Zvu {t tx : TypeId} {x y : Value} {m : Nat} {l c : List Value} (h : ZgU P s t tx x y m l c = some (v, s')) : s.n < s'.n := by
 unfold ZgU at h
 try simp only [cond_eq_ite] at h
 repeat' (split at h)
 all_goals first
  | (cases h; done)
  | (injection h with h; injection h with h1 h2; subst h1 h2; exact Nat.lt_succ_self _)
theorem Up.setN {s s1 : St} (h : Up s s1) (hn : s.n < s1.n) (o : Option AObj) : Up s ⟨s1.h.set s.n o, s1.n, s1.wr, s1.orc, s1.ob⟩ := by
 obtain ⟨h1, h2, ws, h3, h4⟩ := h
 refine ⟨h1, h2, ws, h3, fun j hj hq => ?_⟩
 show (s1.h.set s.n o).get j = _
 rw [Tr.get_set, Zh (fun e => hq ⟨by omega, by show j < s1.n; omega⟩)]
 exact h4 j hj hq
theorem Z0r {t tx : TypeId} {x y : Value} {m : Nat} {l c : List Value} {cs : List Cell} (h : Zmz P s t tx x y m l c cs = some (v, s')) : Up s s' := by
 unfold Zmz at h
 split at h
 ·rename_i ht
  obtain ⟨_, h⟩ := Zp h
  split at h
  ·injection h with h
   injection h with h1 h2
   subst h1 h2
   exact ((Znw ht).setN (Zvu ht) none).trans (Zaj _)
  ·cases h
 ·cases h
theorem Z0s {t tx : TypeId} {x y : Value} {m : Nat} {l c0 c : List Value} (h : Zm0 P s t tx x y m l c0 c = some (v, s')) : Up s s' := by
 unfold Zm0 at h
 split at h
 ·rename_i ht
  split at h
  ·injection h with h
   injection h with h1 h2
   subst h1 h2
   exact ((Znw ht).setN (Zvu ht) _).trans (Zaj _)
  ·cases h
 ·cases h
theorem ZyQ {t tx : TypeId} {x y : Value} {m : Nat} {l c : List Value} (h : Zk3 P s t tx x y m l c = some (v, s')) : Up s s' := by
 unfold Zk3 at h
 try simp only [cond_eq_ite] at h
 repeat' (split at h)
 all_goals first
  | (cases h; done)
  | (injection h with h; injection h with h1 h2; subst h1 h2; exact up_putK.trans (Zaj _))
theorem ZyR {t tx : TypeId} {x y : Value} (h : Zk4 P s t tx x y = some (v, s')) : Up s s' := by
 unfold Zk4 at h
 try simp only [cond_eq_ite] at h
 repeat' (split at h)
 all_goals first
  | (cases h; done)
  | (injection h with h; injection h with h1 h2; subst h1 h2; exact Zaj _)
theorem Z0t {kk : IntKind} {e : Nat} {args : Array Value} {z : Int} {c : List Value} (h : Zjq kk e args z c s = some (v, s')) : Up s s' := by
 unfold Zjq at h
 repeat' (split at h)
 all_goals first
  | (cases h; done)
  | (injection h with h; injection h with h1 h2; subst h1 h2; first | exact Zaj _ | exact up_putK.trans (Zaj _) | exact ((Zaj _).trans (Zjy (by assumption))) | exact (((Zaj _).trans (Zjy (by assumption))).trans up_putK).trans (Zaj _))
theorem ZzG {O : Obj} : Up s (s.addM O) := ⟨Nat.le_succ _, List.suffix_refl _, [], rfl, fun j _ hn => by
 show (s.h.set s.n _).get j = _
 rw [Tr.get_set, Zh (by intro e; subst e; exact hn ⟨Nat.le_refl _, Nat.lt_succ_self _⟩)]⟩
theorem up_putM {k : Nat} {O : Obj} : Up s (s.putM k O) := ⟨Nat.le_refl _, List.suffix_refl _, [k], rfl, fun j hj _ => by
 show (s.h.set k _).get j = _
 rw [Tr.get_set, Zh (by intro e; subst e; exact hj (List.mem_singleton.2 rfl))]⟩
theorem Z2c {t : TypeId} {x : Value} (h : Zm7 P s t x = some (v, s')) : Up s s' := by
 unfold Zm7 at h
 repeat' (split at h)
 all_goals first
  | (cases h; done)
  | (injection h with h; injection h with h1 h2; subst h1 h2; first | exact Up.refl _ | exact up_putM)
theorem Z1m {t : TypeId} {x k : Value} (h : ZkD P s t x k = some (v, s')) : Up s s' := by
 unfold ZkD at h
 repeat' (split at h)
 all_goals first
  | (cases h; done)
  | skip
 all_goals (replace h := (Zp h).2)
 all_goals first
  | (cases h; done)
  | (injection h with h; injection h with h1 h2; subst h1 h2; exact up_putM)
theorem Z2d {t : TypeId} {x : Operand} (h : Zm6 P ρ t x s = some (v, s')) : Up s s' := by
 unfold Zm6 at h
 repeat' (split at h)
 all_goals first
  | (cases h; done)
  | (injection h with h; injection h with h1 h2; subst h1 h2; exact ZzG)
theorem Z2G {it : Operand} {q : Bool} (h : ZoV ρ it q s = some (v, s')) : Up s s' := by
 unfold ZoV at h
 repeat' (split at h)
 all_goals first
  | (cases h; done)
  | (injection h with h; injection h with h1 h2; subst h1 h2; first | exact up_putM | exact Up.refl _)
theorem Z0u {t : TypeId} {r : Option Operand} (h : Zjt P ρ t r s = some (v, s')) : Up s s' := by
 unfold Zjt at h
 repeat' (split at h)
 all_goals first
  | (cases h; done)
  | (injection h with h; injection h with h1 h2; subst h1 h2; exact ZzG)
theorem Z1n {t : TypeId} {x ix : Operand} {ok : Bool} (h : Zf6 P ρ t x ix ok s = some (v, s')) : Up s s' := by
 unfold Zf6 at h
 repeat' (split at h)
 all_goals first
  | (cases h; done)
  | skip
 all_goals (replace h := (Zp h).2)
 all_goals first
  | (cases h; done)
  | (replace h := (Zp h).2; injection h with h; injection h with h1 h2; subst h1 h2; exact Up.refl _)
theorem Z0v {t : TypeId} {x ix : Operand} {ok : Bool} {r : Option Value} (h : Zjr P ρ t x ix ok r s = some (v, s')) : Up s s' := by
 unfold Zjr at h
 repeat' (split at h)
 all_goals first
  | (cases h; done)
  | skip
 all_goals (replace h := (Zp h).2; injection h with h; injection h with h1 h2; subst h1 h2; exact Zaj _)
theorem Z1o {t : TypeId} {m k x : Operand} (h : Zf7 P ρ t m k x s = some (v, s')) : Up s s' := by
 unfold Zf7 at h
 repeat' (split at h)
 all_goals first
  | (cases h; done)
  | skip
 all_goals (replace h := (Zp h).2)
 all_goals first
  | (cases h; done)
  | (injection h with h; injection h with h1 h2; subst h1 h2; exact up_putM)
theorem Z0w {t : TypeId} {m k x : Operand} {l : List MapEntry} (h : Zjs P ρ t m k x l s = some (v, s')) : Up s s' := by
 unfold Zjs at h
 repeat' (split at h)
 all_goals first
  | (cases h; done)
  | skip
 all_goals (replace h := (Zp h).2; injection h with h; injection h with h1 h2; subst h1 h2; exact up_putM.trans (Zaj _))
theorem Z0x {o : Oper} {c : Call} {b : Builtin} (h : Zju P ρ o c b s = some (v, s')) : Up s s' := by
 unfold Zju at h
 split at h
 ·split at h
  ·split at h
   ·exact (ZZ (by assumption)).trans (Znw h)
   ·exact (ZZ (by assumption)).trans (ZyQ h)
   ·exact (ZZ (by assumption)).trans (ZyR h)
   ·exact (ZZ (by assumption)).trans (Z0r h)
   ·exact (ZZ (by assumption)).trans (Z0s h)
   ·cases h
   ·exact (ZZ (by assumption)).trans (Z1h h)
  ·cases h
 ·split at h
  ·split at h
   ·injection h with h; injection h with h1 h2; subst h1 h2; exact Up.refl _
   ·split at h
    ·injection h with h; injection h with h1 h2; subst h1 h2; exact Up.refl _
    ·cases h
   ·exact Zbc h
  ·cases h
 ·split at h
  ·exact Z1m h
  ·cases h
 ·split at h
  ·exact Z2c h
  ·cases h
 ·exact Zbc h
theorem Zxk {s s1 : St} {a : Option Nat} (h : s.nextX = (a, s1)) : Up s s1 := by
 unfold St.nextX at h
 split at h <;> (injection h with h1 h2; subst h1 h2)
 ·exact Up.refl _
 ·exact ⟨Nat.le_refl _, List.suffix_refl _, [], rfl, fun _ _ _ => rfl⟩
theorem Zxl {s s1 : St} {a : Option (List Cell)} (h : s.nextL = (a, s1)) : Up s s1 := by
 unfold St.nextL at h
 split at h <;> (injection h with h1 h2; subst h1 h2)
 ·exact Up.refl _
 ·exact ⟨Nat.le_refl _, List.suffix_refl _, [], rfl, fun _ _ _ => rfl⟩
theorem up_told {s : St} {q : Bool} : Up s (s.told q) := ⟨Nat.le_refl _, List.suffix_cons _ _, [], rfl, fun _ _ _ => rfl⟩
theorem ZvG {t : Nat} {x ix : Operand} {i : Nat} (h : Zgv P ρ t x ix i s = some (v, s')) : Up s s' := by
 unfold Zgv at h
 repeat' (split at h)
 all_goals first
  | (cases h; done)
  | (injection h with h; injection h with h1 h2; subst h1 h2; exact up_told.trans up_told)
theorem Z2e {t : Nat} {a : Operand} {l : List Cell} (h : Zm3 P ρ t a l s = some (v, s')) : Up s s' := by
 unfold Zm3 at h
 repeat' (split at h)
 all_goals first
  | (cases h; done)
  | (injection h with h; injection h with h1 h2; subst h1 h2; exact up_told)
theorem Z1p {t : Nat} {x : Operand} {lo hi : Option Operand} {M : List Int} (h : Zk8 P ρ t x lo hi M s = some (v, s')) : Up s s' := by
 unfold Zk8 at h
 split at h
 ·split at h
  ·injection h with h; injection h with h1 h2; subst h1 h2; exact up_told
  ·cases h
 ·cases h
theorem Z1q {t : Nat} {x ix : Operand} {c : List Int} (h : Zk9 P ρ t x ix c s = some (v, s')) : Up s s' := by
 unfold Zk9 at h
 split at h
 ·injection h with h; injection h with h1 h2; subst h1 h2; exact up_told
 ·cases h
theorem Zph {t : Nat} {x : Operand} {lo hi : Option Operand} (h : Zk7 P ρ t x lo hi s = some (v, s')) : Up s s' := by
 unfold Zk7 at h
 split at h
 ·split at h
  ·replace h := (Zp h).2
   split at h
   ·injection h with h; injection h with h1 h2; subst h1 h2; exact Zjy (by assumption)
   ·cases h
  ·cases h
 ·cases h
theorem ZzH {o : Oper} {t : Nat} {x : Operand} {lo hi : Option Operand} (h : Z0e P ρ o t x lo hi s = some (v, s')) : Up s s' := by
 unfold Z0e at h
 split at h
 ·exact (ZZ (by assumption)).trans (Z1k h)
 ·exact (ZZ (by assumption)).trans (Z1l h)
 ·exact (ZZ (by assumption)).trans (Z2F h)
 ·exact (ZZ (by assumption)).trans (Z1p h)
 ·cases h
 ·split at h
  ·injection h with h; subst h; exact (ZZ (by assumption)).trans (ZrN (by assumption))
  ·split at h
   ·injection h with h; subst h; exact (ZZ (by assumption)).trans (Zph (by assumption))
   ·exact (ZZ (by assumption)).trans (Zbc h)
theorem Z1r {a b : TypeId} {z : ByteArray} {r : Option Told} (h : ZkA P a b z r s = some (v, s')) : Up s s' := by
 unfold ZkA at h
 repeat' (split at h)
 all_goals first
  | (cases h; done)
  | skip
 all_goals (replace h := (Zp h).2)
 all_goals (repeat' (split at h))
 all_goals first
  | (cases h; done)
  | (injection h with h; injection h with h1 h2; subst h1 h2; first | exact up_add | exact up_add.trans (Zaj _))
theorem Z3m {o : Oper} (h : ev1 P ρ o s = some (v, s')) : Up s s' := by
 unfold ev1 at h
 split at h
 all_goals first
  | exact ZzH h | exact ZvF h | exact Z1X h | exact Zxh h | exact Z1Z h | exact Zpg h | exact Zxj h | exact Z1j h | exact Zbc h
  | (injection h with h; injection h with h1 h2; subst h1 h2; first | exact Up.refl _ | exact up_add)
  | (cases h; done)
  | skip
 ·split at h
  ·split at h <;> (injection h with h; injection h with h1 h2; subst h1 h2; exact Up.refl _)
  ·cases h
 all_goals (repeat' (split at h))
 all_goals first
  | (cases h; done)
  | exact (ZZ (by assumption)).trans (Zvt h)
  | exact (ZZ (by assumption)).trans (Z1i h)
  | exact (ZZ (by assumption)).trans (Z1Y h)
  | exact (ZZ (by assumption)).trans (Z2E h)
  | exact (ZZ (by assumption)).trans (Z3l h)
  | exact (ZZ (by assumption)).trans (Zxj h)
  | exact Z1j h
  | exact Zxj h
  | exact Z0u h
  | exact Z2d h
  | exact Z2G h
  | exact (ZZ (by assumption)).trans (Z0v h)
  | exact (ZZ (by assumption)).trans (Z1n h)
  | exact (ZZ (by assumption)).trans (Z0w h)
  | exact (ZZ (by assumption)).trans (Z1o h)
  | exact ZzH h
  | exact (ZZ (by assumption)).trans (Z2b h)
  | exact (ZZ (by assumption)).trans (ZyP h)
  | exact (ZZ (by assumption)).trans (Zta h)
  | exact (ZZ (by assumption)).trans (Zxi h)
  | exact (ZZ (by assumption)).trans (Z1q h)
  | exact (ZZ (by assumption)).trans (Zbc h)
  | (injection h with h; subst h; first | exact (ZZ (by assumption)).trans (ZrN (by assumption)) | exact (ZZ (by assumption)).trans (Zph (by assumption)))
  | exact (Zxl (by assumption)).trans (Z2e h)
  | exact (Zxk (by assumption)).trans (ZvG h)
  | exact (Zxk (by assumption)).trans (Zpg h)
  | (injection h with h; injection h with h1 h2; subst h1 h2; exact Zxl (by assumption))
  | exact Z0x h
  | exact Zbc h
  | (injection h with h; injection h with h1 h2; subst h1 h2; first | exact Up.refl _ | exact up_add)
  | (injection h with h; subst h; exact (ZZ (by assumption)).trans (Z1r (by assumption)))
  | (injection h with h; subst h; first | exact Z2a (by assumption) | exact ZrN (by assumption) | exact Zph (by assumption) | exact Zta (by assumption))
theorem Z2H {n : Nat} {args : Array Value} (h : ZoU n args s = some (v, s')) : Up s s' := by
 unfold ZoU at h
 split at h
 ·injection h with h; injection h with h1 h2; subst h1 h2; exact Up.refl _
 ·injection h with h; injection h with h1 h2; subst h1 h2; exact Up.refl _
 ·cases h
theorem Z1s {kk : IntKind} {e : Nat} {args : Array Value} (h : Zej kk e args s = some (v, s')) : Up s s' := by
 unfold Zej at h
 repeat' (split at h)
 all_goals first
  | (cases h; done)
  | (injection h with h; injection h with h1 h2; subst h1 h2; first | exact Up.refl _ | exact Zcg (by assumption) | exact Zjy (by assumption) | exact (Zjy (by assumption)).trans (Zcg (by assumption)))
theorem ZzI {o : Oper} {v1 : Value} {s1 : St} (h : ZwN o v s = (v1, s1)) : Up s s1 := by
 unfold ZwN at h
 split at h
 all_goals first
  | (generalize hq : s.tst _ = q at h; obtain ⟨b, s2⟩ := q; simp only [Prod.mk.injEq] at h; obtain ⟨rfl, rfl⟩ := h; exact Zjy hq)
  | (generalize hq : s.vst _ = q at h; obtain ⟨b, s2⟩ := q; simp only [Prod.mk.injEq] at h; obtain ⟨rfl, rfl⟩ := h; exact Z3k hq)
  | (simp only [Prod.mk.injEq] at h; obtain ⟨rfl, rfl⟩ := h; exact Up.refl _)
end
mutual
inductive Dec (w : World) : Nat → Nat → Nat → Prop
 | mk {b base id : Nat} {c : List Cell} {C : Array Value} {t : TypeId} {fr : Nat × Nat} (h1 : decode id = some c) (h2 : w.heap[b]? = some (.cells C t fr)) (h3 : 0 < c.length → base + c.length ≤ C.size) (h4 : ∀ (i : Nat) (x : Cell) (y : Value), c[i]? = some x → C[base + i]? = some y → DecC w x y) : Dec w b base id
inductive DecC (w : World) : Cell → Value → Prop
 | i {n : Int} : DecC w (.i n) (.int .i64 n)
 | k {q : IntKind} {n : Int} : DecC w (.k q n) (.int q n)
 | b {q : Bool} : DecC w (.b q) (.bool q)
 | s {x : ByteArray} : DecC w (.s x) (.string x)
 | m0 {id o : Nat} {a : Option Addr} : DecC w (.m id o 0 0) (.slice a 0 0)
 | m {b base id o n c c' : Nat} (h : Dec w b base id) (hn : n ≤ c) (hc : c ≤ c') : DecC w (.m id o n c) (.slice (some ⟨b, base + o, none⟩) n c')
end
noncomputable def ιMk (w : World) : Ren := fun k => @dite _ (∃ b base id, k = Zai b base id ∧ Dec w b base id) (Classical.propDecidable _) (fun h => some (h.choose, 0)) (fun _ => none)
theorem ιMk_of {w : World} {b base id : Nat} (h : Dec w b base id) : ιMk w (Zai b base id) = some (b, 0) := by
 have hex : ∃ b' base' id', Zai b base id = Zai b' base' id' ∧ Dec w b' base' id' := ⟨b, base, id, rfl, h⟩
 unfold ιMk
 rw [dif_pos hex]
 obtain ⟨base', id', h1, _⟩ := hex.choose_spec
 rw [← (ZrI h1).1]
theorem ιMk_inv {w : World} {k : Nat} {q : Nat × Nat} (h : ιMk w k = some q) : ∃ b base id, k = Zai b base id ∧ q = (b, 0) ∧ Dec w b base id := by
 unfold ιMk at h
 by_cases hex : ∃ b' base' id', k = Zai b' base' id' ∧ Dec w b' base' id'
 ·rw [dif_pos hex] at h
  injection h with h
  obtain ⟨base', id', h1, h2⟩ := hex.choose_spec
  exact ⟨_, base', id', h1, h.symm, h2⟩
 ·rw [dif_neg hex] at h; cases h
theorem DecC.vr {w : World} {x : Cell} {y : Value} (h : DecC w x y) : VR (ιMk w) (ZdO x) y := by
 cases h with
 | i => exact .atom rfl
 | k => exact .atom rfl
 | b => exact .atom rfl
 | s => exact .atom rfl
 | m0 => exact .slice0 fun _ => rfl
 | m h hn hc => exact .mslice (ιMk_of h) hn hc
def TabW (w : World) : Prop := ∀ x ∈ tabs, ∃ C t fr, w.heap[x.1]? = some (.cells C t fr) ∧ TabC x.2 C
theorem Z2I : Z5 (fun x : Nat × List Cell => Z5 atom (Zw x.2)) tabs = true := by rfl
theorem Z2f {w : World} {x : Cell} (h : atom (ZdO x) = true) : DecC w x (ZdO x) := by
 cases x with
 | i n => exact .i
 | b q => exact .b
 | k q n => exact .k
 | s x => exact .s
 | any => exact (Bool.false_ne_true h).elim
 | m id o n c => exact (Bool.false_ne_true h).elim
theorem TabW.dec {w : World} (h : TabW w) : ∀ x ∈ tabs, Dec w x.1 0 (code x.2) := fun x hx => by
 obtain ⟨C, t, fr, h1, hC⟩ := h x hx
 obtain ⟨g, l⟩ := x
 cases l with
 | nil => exact .mk (Zdw []) h1 (fun h => by simp at h) fun i z y hz hy => by simp at hz
 | cons z0 l =>
 obtain rfl : C = _ := hC
 generalize hx2 : (g, z0 :: l) = x at *
 obtain rfl : g = x.1 := by rw [← hx2]
 have e2 : z0 :: l = x.2 := by rw [← hx2]
 have ha := ZaG Z2I x hx
 have hl : (Zw x.2).length = x.2.length := by unfold Zw; rw [List.length_map]
 refine .mk (Zdw x.2) h1 (fun _ => by simp [hl]) fun i z y hz hy => ?_
 have hv : (Zw x.2)[i]? = some (ZdO z) := by unfold Zw; rw [List.getElem?_map, hz]; rfl
 rw [Nat.zero_add, List.getElem?_toArray, hv] at hy
 injection hy with hy
 subst hy
 exact Z2f (ZaG ha _ (List.mem_of_getElem? hv))
theorem Emb.tabw {P : Program} {ι : Ren} {h : AH} {w : World} (e : Emb P ι h w) : TabW w := fun x hx => by
 obtain ⟨q, hq⟩ := e.tb x hx
 obtain ⟨_, ⟨⟨c, C, t, fr, h1, h2, h3, h4, h5⟩, _⟩, _⟩ := e.mks _ _ _ _ hq
 exact ⟨C, t, fr, h2, h5 x hx rfl⟩
theorem Z2J (P : Program) {w : World} (ht : TabW w) : Emb P (ιMk w) (fun _ => none) w := by
 refine ⟨fun k c t q hk => (by cases hk), fun k O hk => (by cases hk), fun k k' b1 b2 h1 => (by cases h1), fun k b1 hk => ?_, fun b base id q hq => ?_, fun x hx => ⟨_, ιMk_of (ht.dec x hx)⟩⟩
 ·obtain ⟨b, base, id, rfl, rfl, h⟩ := ιMk_inv hk
  cases h with
  | mk _ h2 _ _ => exact (Array.getElem?_eq_some_iff.1 h2).1
 ·obtain ⟨b', base', id', h1, rfl, h⟩ := ιMk_inv hq
  obtain ⟨rfl, rfl, rfl⟩ := ZrI h1
  cases h with
  | mk h1 h2 h3 h4 =>
   rename_i c C t fr
   refine ⟨rfl, ⟨⟨c, C, t, fr, h1, h2, h3, fun i x y hx hy => ?_, fun x hx hb => ?_⟩, fun o c' hc => ιMk_of ?_⟩, fun k d hk => (by cases hk)⟩
   ·unfold Zw at hx
    rw [List.getElem?_map] at hx
    cases hb : c[i]? with
    | none => rw [hb] at hx; cases hx
    | some z =>
     rw [hb] at hx
     injection hx with hx
     subst hx
     exact (h4 i z y hb hy).vr
   ·obtain ⟨C', t', fr', h6, h7⟩ := ht x hx
    rw [hb, h2] at h6
    injection h6 with h6
    injection h6 with h6
    rw [h6]; exact h7
   ·unfold Zay at hc
    rw [h1] at hc
    obtain ⟨e, hl⟩ := ZeB hc
    have hl' : c'.length ≤ c.length - o := by simpa using hl
    refine .mk (Zdw c') h2 (fun h0 => by have := h3 (by omega); omega) fun i x y hx hy => ?_
    have hi : i < c'.length := (List.getElem?_eq_some_iff.1 hx).1
    refine h4 (o + i) x y ?_ (by rw [← Nat.add_assoc]; exact hy)
    rw [e, List.getElem?_take_of_lt hi, List.getElem?_drop] at hx
    exact hx
end Ev
end Go.Proofs.YthfohmhipifiaaaGreat
