/- Each operation of the runner against the model's own: append, and all of them together. -/
import Derived.Test.YtldlnclkdgfahaaGreatEvD
import Derived.Deep.Upon
import Derived.Lib.AppendZerosOnto
namespace Go.Proofs.YtldlnclkdgfahaaGreat
open Go.RowKit
namespace Ev
section
variable {P : Program} {ι : Ren} {w : World} {ρ ρ' : Operand → Value} {s s' : St} {v : Value}

/-- What a source of an append does. -/
structure SrcF (P : Program) (t tx ty e : TypeId) (i : TypeInfo) (u y' : Value) (m : Nat) (news : List Value) (w : World) : Prop where
  len : news.length = m * i.size
  one : ∀ u ∈ news, u.oneCell' = true
  nothing : m = 0 → ∀ (base : Option Addr) (sLen sCap : Nat), sLen ≤ sCap → (Builtin.append_ #[t, tx] ty #[.slice base sLen sCap, y']).run P w = .ok (.slice base sLen sCap) w
  room : 0 < m → ∀ (b off sLen sCap : Nat) (w' : World), sLen + m ≤ sCap → (storeCells ⟨b, off + sLen * i.size, none⟩ news).run P w = .ok () w' →
    (Builtin.append_ #[t, tx] ty #[.slice (some ⟨b, off, none⟩) sLen sCap, y']).run P w = .ok (.slice (some ⟨b, off, none⟩) (sLen + m) sCap) w'
  grow : 0 < m → ∀ (base : Option Addr) (sLen sCap : Nat) (olds : List Value), (Builtin.firstCells i.size sLen (.slice base sLen sCap)).run P w.drew = .ok olds.toArray w.drew → sCap < sLen + m → sLen + m ≤ 200000 →
    Builtin.nextslicecap (sLen + m) sCap * i.bytes ≤ 281474976710656 → (Builtin.append_ #[t, tx] ty #[.slice base sLen sCap, y']).run P w =
      .ok (.slice (some ⟨w.heap.size, 0, none⟩) (sLen + m) (grownCap w (sLen + m) sCap e)) (w.drew.alloc (.cells ((olds ++ news).toArray ++ Builtin.zeroCells u.cells (grownCap w (sLen + m) sCap e - (sLen + m))) e))
theorem append_room {t tx ty e : TypeId} {i : TypeInfo} (ht : P.underlying t = some (.slice e)) (hi : P.info? e = some i) {b off sLen sCap : Nat} {x : Value} {n : Nat} {news : List Value} (hs : Src P i.size tx x n news w) (hroom : sLen + n ≤ sCap) {w' : World}
    (hst : (storeCells ⟨b, off + sLen * i.size, none⟩ news).run P w = .ok () w') :
    (Builtin.append_ #[t, tx] ty #[.slice (some ⟨b, off, none⟩) sLen sCap, x]).run P w = .ok (.slice (some ⟨b, off, none⟩) (sLen + n) sCap) w' := by
  rcases hs.kind with ⟨e', hk⟩ | hk <;> simp [Builtin.append_, run_underlying ht, run_underlying hk, sizeOf, typeInfo, hi, hs.len, hroom, hs.cells, Addr.add_lit, hst]
theorem SrcF.of {t tx ty e : TypeId} {i : TypeInfo} {u y' : Value} {m : Nat} {news : List Value} (ht : P.underlying t = some (.slice e)) (hi : P.info? e = some i) (hz : i.zero = some u) (hs : Src P i.size tx y' m news w) : SrcF P t tx ty e i u y' m news w :=
  ⟨hs.newsLen, hs.one, fun hm base sLen sCap hle => (by
      subst hm
      have : news = [] := List.eq_nil_of_length_eq_zero (by rw [hs.newsLen]; simp)
      subst this
      exact run_append_nothing w t tx ty e i ht hi base sLen sCap hle y' hs),
    fun _ b off sLen sCap w' hr hst => append_room ht hi hs hr hst,
    fun _ base sLen sCap olds hold hg h2 hfit => run_append_grow_src (P := P) w t tx ty e i u ht hi hz base sLen sCap olds hold y' m news hs hg (by omega) hfit⟩
theorem SrcF.zeros {t tn ty e : TypeId} {i : TypeInfo} {z : Value} {kq kn : IntKind} (ht : P.underlying t = some (.slice e)) (htn : P.underlying tn = some (.int kn)) (hi : P.info? e = some i) (hz : i.zero = some z) (hzs : z.cells.size = i.size) (h1 : ∀ u ∈ z.cells.toList, u.oneCell' = true)
    {k : Nat} (h0 : 0 < k) (hs : 0 < i.size) (hk5 : k ≤ 100000) (hb : i.bytes ≤ 1000) : SrcF P t tn ty e i z (.int kq k) k (Builtin.zeroCells z.cells k).toList w := by
  have h48 : k * i.bytes ≤ 281474976710656 := by
    have : k * i.bytes ≤ 100000 * 1000 := Nat.mul_le_mul hk5 hb
    omega
  refine ⟨by rw [Array.length_toList, size_zeroCells, hzs], fun u hu => ?_, fun hm => by omega, fun _ b off sLen sCap w' hr hst => ?_, fun _ base sLen sCap olds hold hg h2 hfit => ?_⟩
  · simp only [Builtin.zeroCells, Array.toList_map, List.mem_map] at hu
    obtain ⟨j, _, rfl⟩ := hu
    have hm : j % z.cells.size < z.cells.size := Nat.mod_lt _ (by omega)
    rw [getElem!_pos z.cells (j % z.cells.size) hm]
    exact h1 _ (by simp)
  · have hk : k ≠ 0 := by omega
    have hw : IntKind.i64.wrap (k : Int) = k := by rw [IntKind.wrap_i64]; omega
    have h48i : ¬ (281474976710656 < (k : Int) * (i.bytes : Int)) := by
      rw [← Int.natCast_mul]
      omega
    have hneg : ¬ ((k : Int) < 0) := by omega
    have hns : ¬ (k * i.size = 0) := Nat.mul_ne_zero hk (by omega)
    simp [Builtin.append_, run_underlying ht, run_underlying htn, sizeOf, typeInfo, zeroValue, hi, hz, asInt, asIntOf, hw, hk, hneg, hns, hr, h48i, Addr.add_lit, hst]
  · rw [Lib.run_append_grow_zeros w t tn ty e i z kq kn ht htn hi hz base sLen sCap olds hold k h0 hs hg (by omega) h48 hfit]
    congr 3
    apply Array.ext'
    simp
theorem rowS_load (he : Emb P ι s.h.get w) {k o m : Nat} {l : List Value} (h : rowS s k o m = some l) :
    ∃ (b : Nat × Nat) (cs : List Value), ι k = some b ∧ cs.length = m ∧ l.length = m ∧ (∀ j u, cs[j]? = some u → w.cell? ((⟨b.1, o, none⟩ : Addr).add j) = some u) ∧ ∀ (j : Nat) x y, l[j]? = some x → cs[j]? = some y → VR ι x y := by
  unfold rowS at h
  split at h
  · rename_i c t hk
    exact row_load he (by unfold rowAt; rw [hk]; exact h)
  · rename_i O hk
    obtain ⟨b, hb, hB⟩ := he.ro0 hk
    cases hm : Nat.beq m 0 with
    | true =>
      rw [hm] at h
      injection h with h
      subst h
      obtain rfl := Nat.eq_of_beq_eq_true hm
      exact ⟨b, [], hb, rfl, rfl, fun j u hu => by simp at hu, fun j x y hx _ => by simp at hx⟩
    | false =>
    rw [hm] at h
    simp only [cond_false] at h
    split at h
    · rename_i l' hr
      obtain ⟨h1, h⟩ := bif_some h
      injection h with h
      subst h
      unfold roRow at hr
      split at hr
      · obtain ⟨hl, hcs⟩ := ro_cells (w := w) hB hr
        refine ⟨b, l', hb, hl, hl, hcs, fun j x y hx hy => ?_⟩
        rw [hx] at hy
        injection hy with hy
        subst hy
        exact .atom (allB_mem h1 _ (List.mem_of_getElem? hx))
      · cases hr
    · cases h
  · cases h
theorem cellsAt_src (he : Emb P ι s.h.get w) {m : Nat} {t tx ty e : TypeId} {i : TypeInfo} {u y y' : Value} {l : List Value} (ht : P.underlying t = some (.slice e)) (hi : P.info? e = some i) (hz : i.zero = some u) (hzs : u.cells.size = i.size) (hb : i.bytes ≤ 1000) (ha : allB atom u.cells.toList = true) (hv : VR ι y y') (h : cellsAt P s u.cells.toList i.size tx y = some (m, l)) :
    ∃ news, SrcF P t tx ty e i u y' m news w ∧ l.length = m * i.size ∧ ∀ (j : Nat) x u, l[j]? = some x → news[j]? = some u → VR ι x u := by
  unfold cellsAt at h
  split at h
  · rename_i e' hu
    injection h with h
    injection h with h1 h2
    subst h1 h2
    have := hv.eq_of_atom (by rfl)
    subst this
    exact ⟨[], SrcF.of ht hi hz (Src.ofNil w hu 0), by simp, fun j x u hx _ => by simp at hx⟩
  · rename_i e' k o n c hu
    split at h
    · rename_i r hr
      replace h := bif_some h
      obtain ⟨h1, h⟩ := h
      injection h with h
      injection h with h2 h3
      subst h2 h3
      obtain ⟨b, cs, hb, hcl, hll, hcs, hvv⟩ := rowS_load he hr
      have hone : ∀ u ∈ cs, u.oneCell' = true := fun u hu => by
        obtain ⟨j, hj⟩ := List.mem_iff_getElem?.1 hu
        have hjl : j < r.length := by have := (List.getElem?_eq_some_iff.1 hj).1; omega
        exact cell1_VR (hvv j r[j] u (List.getElem?_eq_getElem hjl) hj) (allB_mem h1 _ (List.getElem_mem hjl))
      cases hv with
      | atom h => simp [Ev.atom] at h
      | slice hb2 hn hc hq =>
        rename_i b2 c'
        rw [hb] at hb2; injection hb2 with hb2; subst hb2
        exact ⟨cs, SrcF.of ht hi hz (Src.ofSlice w hu _ n c' cs hcl hcs hone), hll, hvv⟩
      | slice0 _h0 =>
        rename_i a'
        have : cs = [] := List.eq_nil_of_length_eq_zero (by omega)
        subst this
        cases a' with
        | none => exact ⟨[], SrcF.of ht hi hz (Src.ofNil w hu 0), hll, hvv⟩
        | some a' => exact ⟨[], SrcF.of ht hi hz (Src.ofSlice w hu _ 0 0 [] (by simp) (fun j u hu => by simp at hu) (fun u hu => by cases hu)), hll, hvv⟩
    · cases h
  · rename_i kk kq n hu
    replace h := bif_some h
    obtain ⟨hg, h⟩ := h
    simp only [Bool.and_eq_true] at hg
    obtain ⟨⟨g1, g2⟩, g3⟩ := hg
    injection h with h
    injection h with h2 h3
    subst h2 h3
    have hn0 : 0 < n := Nat.le_of_ble_eq_true g1
    have hs0 : 0 < i.size := Nat.le_of_ble_eq_true g2
    have hn5 : n ≤ 100000 := Nat.le_of_ble_eq_true g3
    have := hv.int_inv
    subst this
    have hone : ∀ x ∈ u.cells.toList, x.oneCell' = true := fun x hx => by
      have := allB_mem ha x hx
      cases x <;> first | rfl | (simp [Ev.atom] at this)
    have hpw := rep_CR (ι := ι) ha (by omega) (n * u.cells.size)
    refine ⟨(Builtin.zeroCells u.cells n).toList, SrcF.zeros ht hu hi hz hzs hone hn0 hs0 hn5 hb, by simp [rep, hzs], fun j x y hx hy => ?_⟩
    exact hpw.2 j x y (by simpa using hx) (by rw [← Array.getElem?_toList]; exact hy)
  · cases h
theorem Res.cast {r r' : Result Next} (h : Res P r s ι w v s') (e : r' = r) : Res P r' s ι w v s' := e ▸ h
theorem pw_list {l : List Value} {c : List Value} (hl : l.length = c.length) (h : ∀ (j : Nat) x u, l[j]? = some x → c[j]? = some u → VR ι x u) (d : Array Value) : CR ι l (c.toArray ++ d) :=
  ⟨by simp; omega, fun j x u hx hu => h j x u hx (by
    have hj : j < c.length := by have := (List.getElem?_eq_some_iff.1 hx).1; omega
    rw [Array.getElem?_append_left (by simpa using hj)] at hu
    simpa using hu)⟩
theorem appendTo_sound {t tx ty : TypeId} {x y x' y' : Value} (hx : VR ι x x') (hy : VR ι y y') (he : Emb P ι s.h.get w) (hf : Fresh ι s.n s'.n) (h : appendTo P s t tx x y = some (v, s')) :
    ∃ v' w' ι', (Builtin.append_ #[t, tx] ty #[x', y']).run P w = .ok v' w' ∧ Step P ι s.h.get w ι' s'.h.get w' ∧ Dom ι ι' s.n s'.n ∧ VR ι' v v' := by
  unfold appendTo at h
  split at h
  · rename_i e hu
    split at h
    · rename_i i z hi hz
      split at h
      · rename_i m l hc
        replace h := bif_some h
        obtain ⟨hg, h⟩ := h
        simp only [Bool.and_eq_true] at hg
        obtain ⟨⟨hg1, hg2⟩, hg3⟩ := hg
        have h1 : m ≤ 100000 := Nat.le_of_ble_eq_true hg1
        have h2 : i.bytes ≤ 1000 := Nat.le_of_ble_eq_true hg2
        have h3 : z.length = i.size := Nat.eq_of_beq_eq_true hg3
        obtain ⟨i', u, hi', hu', rfl, ha⟩ := zeroT_spec hz
        rw [hi] at hi'; injection hi' with hi'; subst hi'
        have h3' : u.cells.size = i.size := by simpa using h3
        obtain ⟨news, hsrc, hll, hvv⟩ := cellsAt_src (ty := ty) he hu hi hu' h3' h2 ha hy hc
        have hnl : l.length = news.length := by rw [hll, hsrc.len]
        have nothing : ∀ {base : Option Addr} {sLen sCap : Nat}, x' = .slice base sLen sCap → sLen ≤ sCap → m = 0 → x = v → s = s' →
            ∃ v' w' ι', (Builtin.append_ #[t, tx] ty #[x', y']).run P w = .ok v' w' ∧ Step P ι s.h.get w ι' s'.h.get w' ∧ Dom ι ι' s.n s'.n ∧ VR ι' v v' := by
          intro base sLen sCap hx' hle hm e1 e2
          subst e1 e2
          rw [hx']
          exact ⟨_, w, ι, hsrc.nothing hm base sLen sCap hle, Step.refl he, Dom.refl, hx' ▸ hx⟩
        have grow : ∀ {base : Option Addr} {sLen sCap : Nat} {olds : List Value} {h0 : AH} {old : List Value}, x' = .slice base sLen sCap → (Builtin.firstCells i.size sLen (.slice base sLen sCap)).run P w.drew = .ok olds.toArray w.drew → olds.length = sLen * i.size →
            old.length = olds.length → (∀ (j : Nat) x u, old[j]? = some x → olds[j]? = some u → VR ι x u) → 0 < m → sCap < sLen + m → sLen ≤ 100000 → Step P ι s.h.get w ι h0 w → s'.n = s.n + 1 → s'.h.get = upd h0 s.n (some (.cells (old ++ l) e)) → v = .slice (some ⟨s.n, 0, none⟩) (sLen + m) (sLen + m) →
            ∃ v' w' ι', (Builtin.append_ #[t, tx] ty #[x', y']).run P w = .ok v' w' ∧ Step P ι s.h.get w ι' s'.h.get w' ∧ Dom ι ι' s.n s'.n ∧ VR ι' v v' := by
          intro base sLen sCap olds h0 old hx' hold hol hlo hvo hm00 hgr hsl hst hn hh hv
          subst hv
          have hfit : Builtin.nextslicecap (sLen + m) sCap * i.bytes ≤ 281474976710656 := growslice_fits hgr (by
            have : (sLen + m) * i.bytes ≤ 200000 * 1000 := Nat.mul_le_mul (by omega) h2
            omega)
          have hrun := hsrc.grow hm00 base sLen sCap olds hold hgr (by omega) hfit
          have hge := grownCap_ge w (sLen + m) sCap e
          have hdrew : Step P ι h0 w ι h0 w.drew := Step.still hst.emb rfl rfl rfl rfl
          have hcr : CR ι (old ++ l) ((olds ++ news).toArray ++ Builtin.zeroCells u.cells (grownCap w (sLen + m) sCap e - (sLen + m))) := by
            refine pw_list (by simp; omega) (fun j x u hx hu => ?_) _
            by_cases hj : j < old.length
            · rw [List.getElem?_append_left hj] at hx
              rw [List.getElem?_append_left (by omega)] at hu
              exact hvo j x u hx hu
            · rw [List.getElem?_append_right (by omega)] at hx
              rw [List.getElem?_append_right (by omega), ← hlo] at hu
              exact hvv _ x u hx hu
          have hal := Step.alloc hdrew.emb (n := s.n) (hf.2 s.n (Nat.le_refl _) (by omega)) e hcr (grownCap w (sLen + m) sCap e) (fun i2 hi2 => by
            rw [hi] at hi2; injection hi2 with hi2; subst hi2
            simp only [Array.size_append, List.size_toArray, List.length_append, size_zeroCells, hol, hsrc.len, h3']
            rw [← Nat.add_mul, ← Nat.add_mul]
            exact Nat.mul_le_mul_right _ (by omega))
          rw [← hh] at hal
          rw [hx']
          refine ⟨_, _, _, hrun, (hst.trans hdrew).trans hal, hn ▸ Dom.one, .slice (b := (w.drew.heap.size, grownCap w (sLen + m) sCap e)) upd_same (Nat.le_refl _) hge (fun _ => .inr (Nat.le_refl _))⟩
        split at h
        · have hx' : x' = .slice none 0 0 := hx.eq_of_atom rfl
          cases hm : Nat.beq m 0 with
          | true =>
            rw [hm] at h
            injection h with h
            injection h with h4 h5
            exact nothing hx' (Nat.le_refl _) (Nat.eq_of_beq_eq_true hm) h4 h5
          | false =>
            rw [hm] at h
            injection h with h
            injection h with h4 h5
            subst h4 h5
            have hm0 : m ≠ 0 := fun e => by subst e; simp at hm
            refine grow (olds := []) (old := []) (h0 := s.h.get) hx' (run_firstCells_none w.drew i.size 0 0 0) (by simp) rfl (fun j x u hx _ => by simp at hx) (by omega) (by omega) (by omega) (Step.refl he) rfl ?_ (by simp)
            show (s.h.set s.n (some (.cells l e))).get = _
            rw [Tr.get_set, List.nil_append]
        · rename_i k o n c
          cases hm : Nat.beq m 0 with
          | true =>
            rw [hm] at h
            injection h with h
            injection h with h4 h5
            have hm0 := Nat.eq_of_beq_eq_true hm
            cases hx with
            | atom h => simp [Ev.atom] at h
            | slice hb hn hc hq => exact nothing rfl (by omega) hm0 h4 h5
            | slice0 => exact nothing rfl (Nat.le_refl _) hm0 h4 h5
          | false =>
            rw [hm] at h
            have hm0 : m ≠ 0 := fun e => by subst e; simp at hm
            simp only [cond_false] at h
            cases hr : Nat.ble (n + m) c with
            | true =>
              rw [hr] at h
              have hrm : n + m ≤ c := Nat.le_of_ble_eq_true hr
              simp only [cond_true] at h
              split at h
              · rename_i s1 hw
                injection h with h
                injection h with h4 h5
                subst h4 h5
                cases hx with
                | atom h => simp [Ev.atom] at h
                | slice hb hn hc hq =>
                  obtain ⟨b2, w', hb2, hrun, hstep, hsn, _, _⟩ := writeAt_sound he (c := news.toArray) hw (by simpa using hnl) (fun j x u hx hu => hvv j x u hx (by simpa using hu))
                  rw [hb] at hb2; injection hb2 with hb2; subst hb2
                  exact ⟨_, w', ι, hsrc.room (by omega) _ _ _ _ _ (by omega) (by simpa using hrun), hstep, hsn ▸ Dom.refl, .slice hb hrm hc hq⟩
                | slice0 => omega
              · cases h
            | false =>
              rw [hr] at h
              have hrm : ¬ (n + m ≤ c) := fun e => by rw [Nat.ble_eq_true_of_le e] at hr; cases hr
              simp only [cond_false] at h
              replace h := bif_some h
              obtain ⟨hg, h⟩ := h
              simp only [Bool.and_eq_true] at hg
              have ho : o = 0 := Nat.eq_of_beq_eq_true hg.1
              have hn5 : n ≤ 100000 := Nat.le_of_ble_eq_true hg.2
              split at h
              · rename_i cs e' hk
                replace h := bif_some h
                obtain ⟨hee, h⟩ := h
                have hee' : e = e' := Nat.eq_of_beq_eq_true hee
                subst hee'
                split at h
                · rename_i old hold
                  injection h with h
                  injection h with h4 h5
                  obtain ⟨rfl, hlen⟩ := takeN_spec hold
                  obtain ⟨bk, C, hbk, hB, hC, hQ⟩ := he.obj k cs e hk
                  have hgrow0 : s'.n = s.n + 1 ∧ s'.h.get = upd (upd s.h.get k none) s.n (some (.cells (cs.take (n * i.size) ++ l) e)) := by
                    subst h5
                    refine ⟨rfl, ?_⟩
                    show ((s.h.set k none).set s.n _).get = _
                    rw [Tr.get_set, Tr.get_set]
                  have h0 := hC.1
                  cases hx with
                  | atom h => simp [Ev.atom] at h
                  | slice0 _h0 =>
                    rename_i ap
                    cases ap with
                    | none => exact grow (olds := []) (old := cs.take (0 * i.size)) rfl (run_firstCells_none w.drew i.size 0 0 0) (by simp) (by simp) (fun j x u hx _ => by simp at hx) (by omega) (by omega) (by omega) (Step.kill he k) hgrow0.1 hgrow0.2 h4.symm
                    | some ap => exact grow (olds := []) (old := cs.take (0 * i.size)) rfl (by simp [Builtin.firstCells, loadCells, loadCellsFrom, Sem.run]) (by simp) (by simp) (fun j x u hx _ => by simp at hx) (by omega) (by omega) (by omega) (Step.kill he k) hgrow0.1 hgrow0.2 h4.symm
                  | slice hb hn hc hq =>
                    rename_i b c'
                    subst ho
                    rw [hbk] at hb; injection hb with hb; subst hb
                    by_cases hin : n + m ≤ c'
                    · -- there is room
                      have hcap : c' ≤ bk.2 := by
                        rcases hq rfl with h | h
                        · omega
                        · exact h
                      have hfit : (n + m) * i.size ≤ C.size := Nat.le_trans (Nat.mul_le_mul_right _ (by omega)) (hQ i hi)
                      rw [Nat.add_mul] at hfit
                      have hnews := hsrc.len
                      have hrun := run_storeCells_at P bk.1 (0 + n * i.size) e news 0 C w hB (by omega) hsrc.one
                      simp only [Nat.add_zero] at hrun
                      obtain ⟨q1, q2, q3⟩ := setRow_at (C' := (C.toList.take (0 + n * i.size) ++ news ++ C.toList.drop (0 + n * i.size + news.length)).toArray) hB
                      have e1 : (cs.take (n * i.size)).length = n * i.size := by rw [List.length_take]; omega
                      have e2 : (C.toList.take (0 + n * i.size)).length = n * i.size := by rw [List.length_take]; simp; omega
                      have hcr : CR ι (cs.take (n * i.size) ++ l) (C.toList.take (0 + n * i.size) ++ news ++ C.toList.drop (0 + n * i.size + news.length)).toArray := by
                        refine ⟨by simp [List.length_take, List.length_drop]; omega, fun j x u hx hu => ?_⟩
                        simp only [List.getElem?_toArray, List.append_assoc] at hu
                        by_cases hj : j < n * i.size
                        · rw [List.getElem?_append_left (by omega), List.getElem?_take_of_lt hj] at hx
                          rw [List.getElem?_append_left (by omega), List.getElem?_take_of_lt (by omega)] at hu
                          exact hC.2 j x u hx (by simpa using hu)
                        · have hjl : j < (cs.take (n * i.size) ++ l).length := (List.getElem?_eq_some_iff.1 hx).1
                          rw [List.length_append] at hjl
                          rw [List.getElem?_append_right (by omega), e1] at hx
                          rw [List.getElem?_append_right (by omega), e2, List.getElem?_append_left (by omega)] at hu
                          exact hvv _ x u hx hu
                      have hst := Step.store he hk hbk hcr (by simp [List.length_take, List.length_drop]; omega) hB q1 q2 q3 rfl rfl rfl
                      have hre := Step.rename hst.emb (n := s.n) (k0 := k) (b := bk) (hf.2 s.n (Nat.le_refl _) (by omega)) hbk (by rw [upd_same]; rfl)
                      have hfin : upd (upd (upd s.h.get k (some (.cells (cs.take (n * i.size) ++ l) e))) k none) s.n (upd s.h.get k (some (.cells (cs.take (n * i.size) ++ l) e)) k) = s'.h.get := by
                        rw [hgrow0.2, upd_same]
                        funext j
                        simp only [upd]
                        split
                        · rfl
                        · split <;> rfl
                      rw [hfin] at hre
                      refine ⟨_, _, _, hsrc.room (by omega) _ _ _ _ _ hin hrun, hst.trans hre, hgrow0.1 ▸ Dom.one, ?_⟩
                      rw [← h4]
                      exact .slice (b := bk) upd_same (Nat.le_refl _) hin (fun _ => .inr hcap)
                    · -- there is none
                      have hcs : ∀ j u, (C.toList.take (n * i.size))[j]? = some u → w.drew.cell? ((⟨bk.1, 0, none⟩ : Addr).add j) = some u := fun j u hj => by
                        have hjl : j < n * i.size := by have := (List.getElem?_eq_some_iff.1 hj).1; simp at this; omega
                        rw [List.getElem?_take_of_lt hjl] at hj
                        have := cell_at (w := w.drew) (o := 0) (j := j) (show w.drew.heap[bk.1]? = _ from hB)
                        rw [this, Nat.zero_add]
                        simpa using hj
                      have hol : (C.toList.take (n * i.size)).length = n * i.size := by rw [List.length_take]; simp; omega
                      refine grow (olds := C.toList.take (n * i.size)) (old := cs.take (n * i.size)) rfl (run_firstCells_some w.drew i.size n _ n c' _ hol hcs) hol (by rw [hol, List.length_take]; omega) (fun j x u hx hu => ?_) (by omega) (by omega) hn5 (Step.kill he k) hgrow0.1 hgrow0.2 h4.symm
                      have hjl : j < n * i.size := by have := (List.getElem?_eq_some_iff.1 hx).1; rw [List.length_take] at this; omega
                      rw [List.getElem?_take_of_lt hjl] at hx hu
                      exact hC.2 j x u hx (by simpa using hu)
                · cases h
              · cases h
        · cases h
      · cases h
    · cases h
  · cases h

/-! ### The others -/
theorem nilEq_sound {t : TypeId} {x y x' y' : Value} {q : Bool} (hx : VR ι x x') (hy : VR ι y y') (h : nilEq (P.underlying t) x y = some q) : (Op.equal t x' y').run P w = .ok q w := by
  have iso : ∀ {a : Option Addr} {z : Value}, VR ι (.pointer a) z → ∃ a', z = .pointer a' ∧ a'.isNone = a.isNone := fun {a z} h => by
    cases h with
    | atom h => exact ⟨_, rfl, rfl⟩
    | ptr h => exact ⟨_, rfl, rfl⟩
  have isn : ∀ {n c : Nat} {z : Value}, VR ι (.slice none n c) z → z = .slice none n c := fun {n c z} h => by
    cases h with
    | atom h => rfl
  have isl : ∀ {a : Addr} {n c : Nat} {z : Value}, (nilToo && Nat.beq c 0) = false → VR ι (.slice (some a) n c) z → ∃ a' n' c', z = .slice (some a') n' c' := fun {a n c z} hc h => by
    cases h with
    | atom h => simp [Ev.atom] at h
    | slice h => exact ⟨_, _, _, rfl⟩
    | slice0 h =>
      rename_i a'
      cases a' with
      | some a' => exact ⟨_, _, _, rfl⟩
      | none => rw [h rfl] at hc; cases hc
  have key : ∀ d : Nat, (Op.equalIn (d + 1) t x' y').run P w = .ok q w := fun d => by
    unfold nilEq at h
    split at h
    · rename_i e b hu
      injection h with h; subst h
      have hx' := hx.eq_of_atom rfl
      obtain ⟨b', hy', hb⟩ := iso hy
      subst hx' hy'
      simp [Op.equalIn, run_underlying hu, hb]
    · rename_i e a hne hu
      injection h with h; subst h
      have hy' := hy.eq_of_atom rfl
      obtain ⟨b', hx', hb⟩ := iso hx
      subst hx' hy'
      cases b' with
      | none => cases a with
        | none => exact absurd rfl hne
        | some a => simp at hb
      | some b' => simp [Op.equalIn, run_underlying hu]
    · rename_i e n c n' c' hu
      injection h with h; subst h
      have hx' := isn hx
      have hy' := isn hy
      subst hx' hy'
      simp [Op.equalIn, run_underlying hu]
    · rename_i e n c b n' c' hu
      cases hc : (nilToo && Nat.beq c' 0) with
      | true => rw [hc] at h; cases h
      | false =>
        rw [hc] at h
        injection h with h; subst h
        have hx' := isn hx
        obtain ⟨b', _, _, hy'⟩ := isl hc hy
        subst hx' hy'
        simp [Op.equalIn, run_underlying hu]
    · rename_i e a n c n' c' hu
      cases hc : (nilToo && Nat.beq c 0) with
      | true => rw [hc] at h; cases h
      | false =>
        rw [hc] at h
        injection h with h; subst h
        have hy' := isn hy
        obtain ⟨a', _, _, hx'⟩ := isl hc hx
        subst hx' hy'
        simp [Op.equalIn, run_underlying hu]
    · rename_i hu
      injection h with h; subst h
      have hx' := hx.eq_of_atom rfl
      subst hx'
      cases hy with
      | atom h => simp [Op.equalIn, run_underlying hu]
      | func _ _ _ _ => simp [Op.equalIn, run_underlying hu]
    · rename_i hu
      injection h with h; subst h
      have hy' := hy.eq_of_atom rfl
      subst hy'
      cases hx with
      | atom h => simp [Op.equalIn, run_underlying hu]
      | func _ _ _ _ => simp [Op.equalIn, run_underlying hu]
    · cases h
  exact key 9999
end
end Ev
end Go.Proofs.YtldlnclkdgfahaaGreat
