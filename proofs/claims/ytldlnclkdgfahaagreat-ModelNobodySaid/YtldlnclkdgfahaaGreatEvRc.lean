/- Ranges over functions: the iterator's code, the statement, the function. -/
import Derived.Test.YtldlnclkdgfahaaGreatEvRb
namespace Go.Proofs.YtldlnclkdgfahaaGreat
open Go.RowKit
namespace Ev
section
variable {P : Program} {ext : FuncId → Option Ext}
theorem up_round (F : Fit P ext) {cx : Cx} {fu : Nat} {xs : List Value} {s s' : St} {e : Ex} (h : evRound P ext cx fu xs s = some (e, s')) : Up s s' := by
  unfold evRound at h
  obtain ⟨_, h⟩ := bif_some h
  obtain ⟨upC, _⟩ := up_all (P := P) (ext := ext) (fun f g hg => (F.hp f g hg).up) fu
  split at h
  · rename_i T1 s1 h1
    split at h
    · rename_i e' T2 s2 h2
      injection h with h; injection h with q1 q2; subst q1 q2
      exact (upC _ _ _ _ _ _ _ h1).trans (upC _ _ _ _ _ _ _ h2)
    · cases h
  · cases h
theorem up_iops (F : Fit P ext) {nt : Nat} {cx : Cx} {fu : Nat} {ops : Array Oper} : ∀ (l : List Oper) (T : Tr Value) (s : St) (ys : List Tmp) (pe : Option Ex) (T' : Tr Value) (s' : St) (ys' : List Tmp) (pe' : Option Ex), evIOps P ext nt cx fu ops l T s ys pe = some (T', s', ys', pe') → Up s s'
  | [], T, s, ys, pe, T', s', ys', pe', h => by
    simp only [evIOps] at h
    injection h with h; simp only [Prod.mk.injEq] at h; obtain ⟨rfl, rfl, rfl, rfl⟩ := h
    exact Up.refl _
  | o :: l, T, s, ys, pe, T', s', ys', pe', h => by
    simp only [evIOps] at h
    obtain ⟨_, h⟩ := bif_some h
    split at h
    · split at h
      · split at h
        · rename_i e s1 h1
          exact (up_round F h1).trans (up_iops F l _ _ _ _ _ _ _ _ h)
        · cases h
      · cases h
    · cases hm : moveOf ys o with
      | true => rw [hm] at h; exact up_iops F l _ _ _ _ _ _ _ _ h
      | false =>
        rw [hm] at h
        simp only [cond_false] at h
        split at h
        · rename_i v s1 h1
          exact ((up_all (P := P) (ext := ext) (fun f g hg => (F.hp f g hg).up) fu).2.2.1 _ _ _ _ _ h1).trans (up_iops F l _ _ _ _ _ _ _ _ h)
        · cases h
theorem up_i (F : Fit P ext) {nt : Nat} {cx : Cx} : ∀ (fu : Nat) (c : Code) (T : Tr Value) (s : St) (ys : List Tmp) (pe : Option Ex) (e : Ex) (T' : Tr Value) (s' : St) (ys' : List Tmp) (pe' : Option Ex), evI P ext nt cx fu c T s ys pe = some (e, T', s', ys', pe') → Up s s'
  | 0, _, _, _, _, _, _, _, _, _, _, h => by simp [evI] at h
  | fu + 1, c, T, s, ys, pe, e, T', s', ys', pe', h => by
    cases c <;> simp only [evI] at h
    case skip => injection h with h; simp only [Prod.mk.injEq] at h; obtain ⟨rfl, rfl, rfl, rfl, rfl⟩ := h; exact Up.refl _
    case ret => injection h with h; simp only [Prod.mk.injEq] at h; obtain ⟨rfl, rfl, rfl, rfl, rfl⟩ := h; exact Up.refl _
    case exit id => injection h with h; simp only [Prod.mk.injEq] at h; obtain ⟨rfl, rfl, rfl, rfl, rfl⟩ := h; exact Up.refl _
    case seq x y =>
      split at h
      · rename_i T1 s1 ys1 pe1 h1; exact (up_i F fu _ _ _ _ _ _ _ _ _ _ h1).trans (up_i F fu _ _ _ _ _ _ _ _ _ _ h)
      · rename_i i r h1; injection h with h; simp only [Prod.mk.injEq] at h; obtain ⟨rfl, rfl⟩ := h; exact up_i F fu _ _ _ _ _ _ _ _ _ _ h1
      · rename_i r h1; injection h with h; simp only [Prod.mk.injEq] at h; obtain ⟨rfl, rfl⟩ := h; exact up_i F fu _ _ _ _ _ _ _ _ _ _ h1
      · cases h
    case cond x y z =>
      split at h
      · split at h
        · exact up_i F fu _ _ _ _ _ _ _ _ _ _ h
        · exact up_i F fu _ _ _ _ _ _ _ _ _ _ h
      · cases h
    case block id x =>
      split at h
      · rename_i i r h1
        cases hb : Nat.beq i id with
        | true => rw [hb] at h; injection h with h; simp only [Prod.mk.injEq] at h; obtain ⟨rfl, rfl⟩ := h; exact up_i F fu _ _ _ _ _ _ _ _ _ _ h1
        | false => rw [hb] at h; injection h with h; simp only [Prod.mk.injEq] at h; obtain ⟨rfl, rfl⟩ := h; exact up_i F fu _ _ _ _ _ _ _ _ _ _ h1
      · rename_i r h1; injection h with h; simp only [Prod.mk.injEq] at h; obtain ⟨rfl, rfl⟩ := h; exact up_i F fu _ _ _ _ _ _ _ _ _ _ h1
      · rename_i r h1; injection h with h; simp only [Prod.mk.injEq] at h; obtain ⟨rfl, rfl⟩ := h; exact up_i F fu _ _ _ _ _ _ _ _ _ _ h1
      · cases h
    case loop x =>
      split at h
      · rename_i T1 s1 ys1 pe1 h1; exact (up_i F fu _ _ _ _ _ _ _ _ _ _ h1).trans (up_i F fu _ _ _ _ _ _ _ _ _ _ h)
      · rename_i i r h1; injection h with h; simp only [Prod.mk.injEq] at h; obtain ⟨rfl, rfl⟩ := h; exact up_i F fu _ _ _ _ _ _ _ _ _ _ h1
      · rename_i r h1; injection h with h; simp only [Prod.mk.injEq] at h; obtain ⟨rfl, rfl⟩ := h; exact up_i F fu _ _ _ _ _ _ _ _ _ _ h1
      · cases h
    case region id ops draw =>
      split at h
      · cases h
      · split at h
        · rename_i T1 s1 ys1 pe1 h1
          injection h with h; simp only [Prod.mk.injEq] at h; obtain ⟨rfl, rfl, rfl, rfl, rfl⟩ := h
          exact up_iops F _ _ _ _ _ _ _ _ _ h1
        · cases h
    all_goals cases h
/-- These temporaries hold yield. -/
def YS (l : Nat) (ys : List Tmp) (a : Act) : Prop := ∀ t ∈ ys, a.tmps.getD t undef = .func (.yield l) #[] #[]
theorem YS.drop {l : Nat} {ys : List Tmp} {a : Act} {nt : Nat} (h : YS l ys a) (hs : a.tmps.size = nt) {dst : Option Tmp} (hd : okDst nt dst = true) (v : Value) : YS l (dropY dst ys) (a.put dst v) := fun t ht => by
  rw [put_getD hs hd]
  cases dst with
  | none => rw [if_neg (by simp)]; exact h t ht
  | some d =>
    have ht : t ∈ ys.filter (fun t => !Nat.beq t d) := ht
    obtain ⟨h1, h2⟩ := List.mem_filter.1 ht
    have : ¬ d = t := fun e => by subst e; simp at h2
    rw [if_neg (by simpa using this)]
    exact h t h1
theorem YS.add {l : Nat} {ys : List Tmp} {a : Act} {nt : Nat} (h : YS l ys a) (hs : a.tmps.size = nt) {dst : Option Tmp} (hd : okDst nt dst = true) : YS l (addY dst ys) (a.put dst (.func (.yield l) #[] #[])) := fun t ht => by
  rw [put_getD hs hd]
  split
  · rfl
  · rename_i hne
    cases dst with
    | none => exact h t ht
    | some d =>
      rcases List.mem_cons.1 (show t ∈ d :: ys from ht) with rfl | ht
      · exact absurd rfl hne
      · exact h t ht
section
variable {ι0 : Ren} {h0 : AH} {w0 : World} {n0 : Nat} {ac : Act} {l0 K : Nat} {R : Loop} {cx : Cx}
theorem iops_sound (F : Fit P ext) (hR : R.tmps = ac.tmps ∧ R.params = cx.ps ∧ R.assign = cx.asg ∧ R.body = cx.body) {nt fu : Nat} {ops : Array Oper} : ∀ (l : List Oper) (T : Tr Value) (s : St) (ys : List Tmp) (pe : Option Ex) (T' : Tr Value) (s' : St) (ys' : List Tmp) (pe' : Option Ex), evIOps P ext nt cx fu ops l T s ys pe = some (T', s', ys', pe') → (∀ p ∈ s'.ob, p.1 = p.2) →
    ∀ ι a W (Q : Exit → Act → World → Prop), TR ι nt [] T a → YS l0 ys a → IS P ι0 h0 w0 n0 cx.nt cx.T ac l0 K (Rp R pe) ι s W → Fresh ι s.n s'.n →
      (∀ ι' a' W', TR ι' nt [] T' a' → YS l0 ys' a' → IS P ι0 h0 w0 n0 cx.nt cx.T ac l0 K (Rp R pe') ι' s' W' → Dom ι ι' s.n s'.n → Q .normal a' W') → wpListIn (Fr none) 0 P ops Q l a W
  | [], T, s, ys, pe, T', s', ys', pe', h, ho, ι, a, W, Q, hT, hY, I, hf, hQ => by
    simp only [evIOps] at h
    injection h with h; simp only [Prod.mk.injEq] at h; obtain ⟨rfl, rfl, rfl, rfl⟩ := h
    exact hQ ι a W hT hY I Dom.refl
  | o :: l, T, s, ys, pe, T', s', ys', pe', h, ho, ι, a, W, Q, hT, hY, I, hf, hQ => by
    simp only [evIOps] at h
    obtain ⟨hg, h⟩ := bif_some h
    simp only [Bool.and_eq_true] at hg
    obtain ⟨⟨hd, hgo⟩, hnd, hgu⟩ := hg
    have hnd := noDefO_spec hnd
    have hgu : o.guard = none := by simpa using hgu
    have hwant : Region.wanted o (yielded ops a.tmps) = true := (wanted_sound (ops := ops) (s := s) (s' := s) (b := true) (fun t _ => hT.2.2 t) (by simp [wantedT, hgu])).1
    unfold wpListIn
    rw [if_pos hwant]
    split at h
    · rename_i xs hy
      have hy : ∃ c t, o.op = .call c ∧ c.callee = .value (.tmp t) ∧ t ∈ ys ∧ c.args = xs := by
        unfold yieldOf at hy
        split at hy
        · rename_i c hop
          split at hy
          · rename_i t hc
            obtain ⟨hm, hy⟩ := bif_some hy
            injection hy with hy
            exact ⟨c, t, hop, hc, memN_iff.1 hm, hy⟩
          · cases hy
        · cases hy
      obtain ⟨c, t, hop, hc, ht, rfl⟩ := hy
      split at h
      · split at h
        · rename_i e s1 h1
          have u1 := up_round F h1
          have u2 := up_iops F _ _ _ _ _ _ _ _ _ h
          have hx : VRs ι (c.args.toList.map (opnd T)).toArray (c.args.map (evalG a)) := by
            have := map_VRs hT.opnd c.args
            rwa [show (c.args.toList.map (opnd T)).toArray = c.args.map (opnd T) by rw [← Array.toList_map]]
          obtain ⟨tm, hrun, hround⟩ := round_sound F h1 (suffix_ob u2.ob ho) hR I (hf.mono (Nat.le_refl _) u2.n) hx
          have hex : (execOp a.eval o).run P W = .ok (.round l0 R.fn tm cx.asg cx.body) W := by
            rw [← exec_good (fun cs b e => by rw [hop] at e; cases e) hgo, ← hrun]
            have hv : evalG a (.tmp t) = .func (.yield l0) #[] #[] := hY t ht
            simp [execOp, hop, resolve, hc, hv, Deferred.ofValue, invoke, Result.andThen, Sem.run]
          refine ⟨fun _ _ => trivial, ?_⟩
          rw [show (Fr none).round = none from rfl, Oper.semAt_none, hex, Oper.uponIn_round]
          refine ⟨fun e => (by cases e), hround.mono ?_⟩
          rintro en W' ⟨rfl, ι', hext, hdom, I'⟩
          refine iops_sound F hR l _ s1 _ _ T' s' ys' pe' h ho ι' _ W' Q ((hT.on hext).put hd (VR.of_free rfl)) (hY.drop hT.1 hd _) I' (hf.after hdom u1.n) fun ι2 a2 W2 k1 k2 k3 k4 => hQ ι2 a2 W2 k1 k2 k3 (hdom.trans k4 u1.n u2.n)
        · cases h
      · cases h
    · cases hm : moveOf ys o with
      | true =>
        rw [hm] at h
        simp only [cond_true] at h
        have hm : ∃ t, o.op = .move (.tmp t) ∧ t ∈ ys := by
          unfold moveOf at hm
          split at hm
          · rename_i t hop; exact ⟨t, hop, memN_iff.1 hm⟩
          · cases hm
        obtain ⟨t, hop, ht⟩ := hm
        have hv : a.eval (.tmp t) = .func (.yield l0) #[] #[] := hY t ht
        refine ⟨fun _ _ => trivial, ?_⟩
        rw [show (Fr none).round = none from rfl, Oper.semAt_none]
        have hex : (execOp a.eval o).run P W = .ok (.value (.func (.yield l0) #[] #[])) W := by
          unfold execOp; rw [hop]; simp only; rw [hv]; rfl
        rw [hex, Oper.uponIn_value]
        exact iops_sound F hR l _ s _ pe T' s' ys' pe' h ho ι _ W Q (hT.put hd (VR.glob rfl)) (hY.add hT.1 hd) I hf hQ
      | false =>
        rw [hm] at h
        simp only [cond_false] at h
        split at h
        · rename_i v s1 hv
          have u1 := (up_all (P := P) (ext := ext) (fun f g hg => (F.hp f g hg).up) fu).2.2.1 _ _ _ _ _ hv
          have u2 := up_iops F _ _ _ _ _ _ _ _ _ h
          refine oper_in (r := none) (Q0 := fun _ _ _ => False) (fun _ _ _ _ h => h) hnd ((sound_all F fu).2.2.1 (opnd T) (evalG a) o s v s1 hv (suffix_ob u2.ob ho) ι W hT.opnd I.st.emb (hf.mono (Nat.le_refl _) u2.n) a _ _ (exec_good (evOp_sel hv) hgo).symm fun v' w' ι' g1 g2 g3 => ?_)
          exact iops_sound F hR l _ s1 _ pe T' s' ys' pe' h ho ι' _ w' Q ((hT.on g1.ext).put hd g3) (hY.drop hT.1 hd _) (I.step g1 g2 u1.n) (hf.after g2 u1.n) fun ι2 a2 W2 k1 k2 k3 k4 => hQ ι2 a2 W2 k1 k2 k3 (g2.trans k4 u1.n u2.n)
        · cases h
end
end
end Ev
end Go.Proofs.YtldlnclkdgfahaaGreat
