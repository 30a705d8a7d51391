/- Operations that are told: each comes to the one that is not. -/
import Derived.Test.YtldlnclkdgfahaaGreatEvE
namespace Go.Proofs.YtldlnclkdgfahaaGreat
open Go.RowKit
namespace Ev
section
variable {P : Program} {ι : Ren} {w : World} {ρ ρ' : Operand → Value} {s s' : St} {v : Value}
theorem nextW_eq {s s1 : St} {a : Option Told} (h : s.nextW = (a, s1)) : s1.h = s.h ∧ s1.n = s.n ∧ s1.ob = s.ob ∧ s1.wr = s.wr := by
  unfold St.nextW at h
  split at h <;> (injection h with h1 h2; subst h1 h2; exact ⟨rfl, rfl, rfl, rfl⟩)
theorem Res.behind {r : Result Next} {s1 : St} (h : Res P r s ι w v s1) (h1 : s'.h = s1.h) (h2 : s'.n = s1.n) : Res P r s ι w v s' := by
  obtain ⟨nx, w', ι', v', a, b, c, d, e⟩ := h
  exact ⟨nx, w', ι', v', a, b, h1 ▸ c, h2 ▸ d, e⟩
theorem storeT_eq {t : TypeId} {a x : Operand} {c' : List Value} (hob : ∀ p ∈ s'.ob, p.1 = p.2) (h : evStoreT P ρ t a x c' s = some (v, s')) : ∃ s1, evStore P ρ t a x s = some (v, s1) ∧ s'.h = s1.h ∧ s'.n = s1.n := by
  unfold evStoreT at h
  split at h
  · rename_i k o i ha hi
    obtain ⟨hg, h⟩ := bif_some h
    simp only [Bool.and_eq_true] at hg
    split at h
    · rename_i c t' hk
      injection h with h
      injection h with h1 h2
      subst h1 h2
      have q := dP_iff.1 (hob (dP (o + (ρ x).cells.toList.length ≤ c.length ∧ putN c o (ρ x).cells.toList = c'), true) (by simp [St.told]))
      refine ⟨s.putK k c' t', ?_, rfl, rfl⟩
      unfold evStore
      rw [ha, hi]
      simp only [hg.1, cond_true]
      unfold writeAt
      rw [hk]
      simp only [hg.2, Nat.ble_eq_true_of_le q.1, Bool.and_self, cond_true, q.2]
    · cases h
  · cases h
theorem opTold_spec {d n : Nat} {x : Option Operand} (h : opTold ρ d x n = true) : opNat ρ d x = some n := by
  unfold opTold at h
  unfold opNat
  split at h
  · rw [dP_iff.1 h]
  · exact natTold_spec h
theorem sliceT_eq {t : TypeId} {x : Operand} {lo hi : Option Operand} {l m : Nat} (hob : ∀ p ∈ s'.ob, p.1 = p.2) (h : evSliceT P ρ t x lo hi l m s = some (v, s')) : evSlice P ρ t x lo hi s = some (v, s) ∧ s'.h = s.h ∧ s'.n = s.n := by
  unfold evSliceT at h
  split at h
  · rename_i e k o n c hu hx
    split at h
    · rename_i ie hie
      obtain ⟨hg, h⟩ := bif_some h
      injection h with h
      injection h with h1 h2
      subst h1 h2
      have q1 := opTold_spec (hob (opTold ρ 0 lo l, true) (by simp [St.told]))
      have q2 := opTold_spec (hob (opTold ρ n hi m, true) (by simp [St.told]))
      have q3 := dP_iff.1 (hob (dP (l ≤ m ∧ m ≤ c), true) (by simp [St.told]))
      refine ⟨?_, rfl, rfl⟩
      unfold evSlice
      rw [hu, hx]
      simp only [hie, q1, q2, hg, Nat.ble_eq_true_of_le q3.1, Nat.ble_eq_true_of_le q3.2, Bool.and_self, cond_true]
    · cases h
  · rename_i e hu hx
    split at h
    · rename_i ie hie
      injection h with h
      injection h with h1 h2
      subst h1 h2
      have q1 := opTold_spec (hob (opTold ρ 0 lo l, true) (by simp [St.told]))
      have q2 := opTold_spec (hob (opTold ρ 0 hi m, true) (by simp [St.told]))
      have q3 := dP_iff.1 (hob (dP (l = 0 ∧ m = 0), true) (by simp [St.told]))
      obtain ⟨q3, q4⟩ := q3
      subst q3 q4
      refine ⟨?_, rfl, rfl⟩
      unfold evSlice
      rw [hu, hx]
      simp only [hie, q1, q2]
    · cases h
  · cases h
theorem cut_sound {o : Oper} {t : TypeId} {x : Operand} {lo hi : Option Operand} {m : Nat} {c' : List Value} (ho : o.op = .slice t x lo hi none) (hρ : ∀ x, VR ι (ρ x) (ρ' x)) (he : Emb P ι s.h.get w) (hf : Fresh ι s.n s'.n) (hob : ∀ p ∈ s'.ob, p.1 = p.2) (h : evCutT P ρ t x lo hi m c' s = some (v, s')) :
    Res P ((execOp ρ' o).run P w) s ι w v s' := by
  unfold evCutT at h
  split at h
  · rename_i e k o' n c hu hx
    split at h
    · rename_i ie cs e' hie hk
      replace h := bif_some h
      obtain ⟨hg, h⟩ := h
      simp only [Bool.and_eq_true] at hg
      obtain ⟨hg1, hg2⟩ := hg
      have hee : e = e' := Nat.eq_of_beq_eq_true hg1
      have ho' : o' = 0 := Nat.eq_of_beq_eq_true hg2
      subst hee ho'
      injection h with h
      injection h with h1 h2
      subst h1 h2
      have q1 := opTold_spec (hob (opTold ρ 0 lo 0, true) (by simp [St.told]))
      have q2 := opTold_spec (hob (opTold ρ n hi m, true) (by simp [St.told]))
      obtain ⟨q3, q4, q5, q6⟩ := dP_iff.1 (hob (dP (m ≤ c ∧ 0 < ie.size ∧ c * ie.size ≤ cs.length ∧ cs.take (m * ie.size) = c'), true) (by simp [St.told]))
      have h4 : evSlice P ρ t x lo hi s = some (.slice (some ⟨k, 0 + 0 * ie.size, none⟩) (m - 0) (c - 0), s) := by
        unfold evSlice
        rw [hu, hx]
        have : Nat.blt 0 ie.size = true := by rw [Nat.blt_eq]; exact q4
        simp only [hie, q1, q2, this, Nat.ble_eq_true_of_le q3, Nat.ble_eq_true_of_le (Nat.zero_le m), Bool.and_self, cond_true]
      obtain ⟨_, nx, w1, ι1, v1, a1, a2, a3, a4, a5⟩ := slice_sound ho hρ he h4
      rw [Nat.zero_mul, Nat.add_zero, Nat.sub_zero, Nat.sub_zero] at a5
      have hfr : s.n < far := by have := hf.1; exact Nat.lt_of_lt_of_le (Nat.lt_succ_self _) this
      have hn : ι1 s.n = none := by
        cases hi1 : ι1 s.n with
        | none => rfl
        | some c =>
          rcases a4 s.n (by rw [hi1]; simp) with h' | ⟨h5, h6⟩ | h5
          · exact absurd (hf.2 s.n (Nat.le_refl _) (Nat.lt_succ_self _)) h'
          · omega
          · omega
      obtain ⟨bk, C, hbk, hB, hC, hQ⟩ := a3.emb.obj k cs e hk
      have hst := Step.cut a3.emb (n := s.n) (k0 := k) (b := bk) (b' := (bk.1, max bk.2 c)) hn hbk hk rfl (fun i hi2 => by
        rw [hie] at hi2; injection hi2 with hi2; subst hi2
        rcases Nat.le_total bk.2 c with h' | h'
        · exact .inr (by show max bk.2 c * _ ≤ _; rw [Nat.max_eq_right h']; exact q5)
        · exact .inl (by show max bk.2 c ≤ _; rw [Nat.max_eq_left h']; exact Nat.le_refl _)) (m * ie.size)
      rw [q6] at hst
      have eh : (((s.turn k c' e).told (opTold ρ 0 lo 0)).told (opTold ρ n hi m)).h.get = upd (upd s.h.get k none) s.n (some (.cells c' e)) := by
        show ((s.h.set k none).set s.n _).get = _
        rw [Tr.get_set, Tr.get_set]
      refine ⟨nx, w1, upd ι1 s.n (some (bk.1, max bk.2 c)), v1, a1, a2, (a3.trans (by rw [← eh] at hst; exact hst)), fun j hj => ?_, ?_⟩
      · by_cases hjn : j = s.n
        · subst hjn; exact .inr (.inl ⟨Nat.le_refl _, Nat.lt_succ_self _⟩)
        · rw [upd_other hjn] at hj
          rcases a4 j hj with h' | ⟨h5, h6⟩ | h5
          · exact .inl h'
          · omega
          · exact .inr (.inr h5)
      · cases a5 with
        | atom h => simp [Ev.atom] at h
        | slice hb hn1 hc hq =>
          rename_i b c1
          rw [hbk] at hb; injection hb with hb; subst hb
          refine .slice (b := (bk.1, max bk.2 c)) upd_same (Nat.le_refl _) (by omega) (fun _ => .inr ?_)
          show c1 ≤ max bk.2 c
          rcases hq rfl with h' | h'
          · exact Nat.le_trans h' (Nat.le_max_right _ _)
          · exact Nat.le_trans h' (Nat.le_max_left _ _)
        | slice0 h => exact .slice0 h
    · cases h
  · cases h
theorem makeT_eq {t : TypeId} {l c : Operand} {n cp : Nat} {cs : List Value} (hob : ∀ p ∈ s'.ob, p.1 = p.2) (h : evMakeT P ρ t l c n cp cs s = some (v, s')) : ∃ s1, evMakeSlice P ρ t l c s = some (v, s1) ∧ s'.h = s1.h ∧ s'.n = s1.n := by
  unfold evMakeT at h
  split at h
  · rename_i e hu
    split at h
    · rename_i i z hi hz
      obtain ⟨hg, h⟩ := bif_some h
      simp only [Bool.and_eq_true] at hg
      injection h with h
      injection h with h1 h2
      subst h1 h2
      have q1 := natTold_spec (hob (natTold (ρ l) n, true) (by simp [St.told]))
      have q2 := natTold_spec (hob (natTold (ρ c) cp, true) (by simp [St.told]))
      obtain ⟨q3, q4, q5⟩ := dP_iff.1 (hob (dP (n ≤ cp ∧ cp ≤ 100000 ∧ rep z (cp * i.size) = cs), true) (by simp [St.told]))
      refine ⟨s.add cs e, ?_, rfl, rfl⟩
      unfold evMakeSlice
      rw [hu, q1, q2]
      simp only [hi, hz, hg.1, hg.2, Nat.ble_eq_true_of_le q3, Nat.ble_eq_true_of_le q4, Bool.and_self, cond_true, q5]
    · cases h
  · cases h
theorem cell1_atom1 {v : Value} (h : atom v = true) : cell1 v = true := by
  cases v <;> simp_all [atom, cell1]
theorem allB_cell1 : ∀ {l : List Value}, allB atom l = true → allB cell1 l = true
  | [], _ => rfl
  | x :: l, h => by
    simp only [allB, Bool.and_eq_true] at h ⊢
    exact ⟨cell1_atom1 h.1, allB_cell1 h.2⟩
theorem srcT_spec {size : Nat} {z : List Value} {tx : TypeId} {y : Value} {p : Nat → List Value → Prop} {m : Nat} {l : List Value} (h : srcT P s size tx y = some p) (hp : p m l) : cellsAt P s z size tx y = some (m, l) := by
  unfold srcT at h
  split at h
  · rename_i e k o n q hu
    split at h
    · rename_i c t hk
      injection h with h
      subst h
      obtain ⟨rfl, h2, h3⟩ := hp
      simp [cellsAt, hu, rowS, hk, h2, h3]
    · rename_i O hk
      injection h with h
      subst h
      obtain ⟨rfl, hp⟩ := hp
      rcases hp with ⟨h2, rfl⟩ | ⟨h1, h2, h3⟩
      · simp [cellsAt, hu, rowS, hk, h2, allB]
      · have h4 := allB_cell1 h3
        have h5 : Nat.beq (m * size) 0 = false := beqF h1
        simp only [cellsAt, hu, rowS, hk, h2, h3, h5, cond_false, cond_true, h4]
    · cases h
  · cases h
theorem appendT_eq {ts tx : TypeId} {x y : Value} {m : Nat} {l c : List Value} (hob : ∀ p ∈ s'.ob, p.1 = p.2) (h : appendT P s ts tx x y m l c = some (v, s')) : ∃ s1, appendTo P s ts tx x y = some (v, s1) ∧ s'.h = s1.h ∧ s'.n = s1.n := by
  unfold appendT at h
  split at h
  · rename_i e hu
    split at h
    · rename_i i z hi hz
      split at h
      · rename_i p hp
        obtain ⟨hg, h⟩ := bif_some h
        simp only [Bool.and_eq_true] at hg
        split at h
        · injection h with h
          injection h with h1 h2
          subst h1 h2
          obtain ⟨q1, q2, q3, q4⟩ := dP_iff.1 (hob (dP (p m l ∧ 0 < m ∧ m ≤ 100000 ∧ l = c), true) (by simp [St.told]))
          subst q4
          refine ⟨s.add l e, ?_, rfl, rfl⟩
          have hm : Nat.beq m 0 = false := beqF (by omega)
          unfold appendTo
          rw [hu]
          simp only [hi, hz, srcT_spec (z := z) hp q1, hg.1, hg.2, Nat.ble_eq_true_of_le q3, Bool.and_self, cond_true, hm, cond_false]
        · rename_i k o n cp _
          obtain ⟨ho, h⟩ := bif_some h
          split at h
          · rename_i cs e' hk
            obtain ⟨hee, h⟩ := bif_some h
            injection h with h
            injection h with h1 h2
            subst h1 h2
            obtain ⟨q1, q2, q3, q4, q5, q6, q7⟩ := dP_iff.1 (hob (dP (p m l ∧ 0 < m ∧ m ≤ 100000 ∧ cp < n + m ∧ n ≤ 100000 ∧ n * i.size ≤ cs.length ∧ cs.take (n * i.size) ++ l = c), true) (by simp [St.told]))
            refine ⟨s.turn k c e, ?_, rfl, rfl⟩
            have hm : Nat.beq m 0 = false := beqF (by omega)
            have hc : Nat.ble (n + m) cp = false := by
              cases hb : Nat.ble (n + m) cp with
              | false => rfl
              | true => have := Nat.le_of_ble_eq_true hb; omega
            have htk : takeN (n * i.size) cs = some (cs.take (n * i.size)) := by
              have : ∀ (m : Nat) (l : List Value), m ≤ l.length → takeN m l = some (l.take m) := by
                intro m
                induction m with
                | zero => intro l _; simp [takeN]
                | succ m ih =>
                  intro l hl
                  cases l with
                  | nil => simp at hl
                  | cons x l =>
                    simp only [takeN]
                    rw [ih l (by simpa using hl)]
                    rfl
              exact this _ _ q6
            unfold appendTo
            rw [hu]
            simp only [hi, hz, srcT_spec (z := z) hp q1, hg.1, hg.2, Nat.ble_eq_true_of_le q3, Nat.ble_eq_true_of_le q5, Bool.and_self, cond_true, hm, cond_false, hc, ho, hk, hee, htk, q7]
          · cases h
        · cases h
      · cases h
    · cases h
  · cases h
theorem appendTI_eq {ts tx : TypeId} {x y : Value} {m : Nat} {l c : List Value} (hob : ∀ p ∈ s'.ob, p.1 = p.2) (h : appendTI P s ts tx x y m l c = some (v, s')) : ∃ s1, appendTo P s ts tx x y = some (v, s1) ∧ s'.h = s1.h ∧ s'.n = s1.n := by
  unfold appendTI at h
  split at h
  · rename_i e hu
    split at h
    · rename_i i z hi hz
      split at h
      · rename_i p hp
        obtain ⟨hg, h⟩ := bif_some h
        simp only [Bool.and_eq_true] at hg
        split at h
        · rename_i k o n cp _
          split at h
          · rename_i cs e' hk
            injection h with h
            injection h with h1 h2
            subst h1 h2
            obtain ⟨⟨q1, q8⟩, q2, q3, q4, q5, q6⟩ := dP_iff.1 (hob (dP ((p m l ∧ allB cell1 l = true) ∧ 0 < m ∧ m ≤ 100000 ∧ n + m ≤ cp ∧ (o + n * i.size + l.length ≤ cs.length ∧ putN cs (o + n * i.size) l = c)), true) (by simp [St.told]))
            refine ⟨s.putK k c e', ?_, rfl, rfl⟩
            have hm : Nat.beq m 0 = false := beqF (by omega)
            have hwr : writeAt s k (o + n * i.size) l = some (s.putK k c e') := by
              unfold writeAt
              rw [hk]
              simp only [q8, Nat.ble_eq_true_of_le q5, Bool.and_self, cond_true, q6]
            unfold appendTo
            rw [hu]
            simp only [hi, hz, srcT_spec (z := z) hp q1, hg.1, hg.2, Nat.ble_eq_true_of_le q3, Nat.ble_eq_true_of_le q4, Bool.and_self, cond_true, hm, cond_false, hwr]
          · cases h
        · cases h
      · cases h
    · cases h
  · cases h
theorem appendT0_eq {ts tx : TypeId} {x y : Value} (hob : ∀ p ∈ s'.ob, p.1 = p.2) (h : appendT0 P s ts tx x y = some (v, s')) : ∃ s1, appendTo P s ts tx x y = some (v, s1) ∧ s'.h = s1.h ∧ s'.n = s1.n := by
  unfold appendT0 at h
  split at h
  · rename_i e hu
    split at h
    · rename_i i z hi hz
      split at h
      · rename_i p hp
        obtain ⟨hg, h⟩ := bif_some h
        simp only [Bool.and_eq_true] at hg
        split at h
        · injection h with h
          injection h with h1 h2
          subst h1 h2
          have q1 := dP_iff.1 (hob (dP (p 0 []), true) (by simp [St.told]))
          refine ⟨s, ?_, rfl, rfl⟩
          unfold appendTo
          rw [hu]
          simp only [hi, hz, srcT_spec (z := z) hp q1, hg.1, hg.2, show Nat.ble 0 100000 = true from rfl, show Nat.beq 0 0 = true from rfl, Bool.and_self, cond_true]
        · injection h with h
          injection h with h1 h2
          subst h1 h2
          have q1 := dP_iff.1 (hob (dP (p 0 []), true) (by simp [St.told]))
          refine ⟨s, ?_, rfl, rfl⟩
          unfold appendTo
          rw [hu]
          simp only [hi, hz, srcT_spec (z := z) hp q1, hg.1, hg.2, show Nat.ble 0 100000 = true from rfl, show Nat.beq 0 0 = true from rfl, Bool.and_self, cond_true]
        · cases h
      · cases h
    · cases h
  · cases h
end
end Ev
end Go.Proofs.YtldlnclkdgfahaaGreat
