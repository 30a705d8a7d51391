/- Functions with a range over a function do what the runner says of them. -/
import Derived.Test.YtldlnclkdgfahaaGreatEvRd
namespace Go.Proofs.YtldlnclkdgfahaaGreat
open Go.RowKit
namespace Ev
section
variable {P : Program} {ext : FuncId → Option Ext}
theorem up_r (F : Fit P ext) {nt : Nat} : ∀ (fu : Nat) (c : Code) (T : Tr Value) (s : St) (m : Bool) (e : Ex) (T' : Tr Value) (s' : St) (m' : Bool), evR P ext nt fu c T s m = some (e, T', s', m') → Up s s'
  | 0, _, _, _, _, _, _, _, _, h => by simp [evR] at h
  | fu + 1, c, T, s, m, e, T', s', m', h => by
    have upC := (up_all (P := P) (ext := ext) (fun f g hg => (F.hp f g hg).up) (fu + 1)).1
    cases c <;> simp only [evR] at h
    case skip => injection h with h; simp only [Prod.mk.injEq] at h; obtain ⟨rfl, rfl, rfl, rfl⟩ := h; exact Up.refl _
    case ret => injection h with h; simp only [Prod.mk.injEq] at h; obtain ⟨rfl, rfl, rfl, rfl⟩ := h; exact Up.refl _
    case exit id => injection h with h; simp only [Prod.mk.injEq] at h; obtain ⟨rfl, rfl, rfl, rfl⟩ := h; exact Up.refl _
    case seq x y =>
      split at h
      · rename_i T1 s1 m1 h1; exact (up_r F fu _ _ _ _ _ _ _ _ h1).trans (up_r F fu _ _ _ _ _ _ _ _ h)
      · rename_i i r h1; injection h with h; simp only [Prod.mk.injEq] at h; obtain ⟨rfl, rfl⟩ := h; exact up_r F fu _ _ _ _ _ _ _ _ h1
      · rename_i r h1; injection h with h; simp only [Prod.mk.injEq] at h; obtain ⟨rfl, rfl⟩ := h; exact up_r F fu _ _ _ _ _ _ _ _ h1
      · cases h
    case cond x y z =>
      split at h
      · split at h
        · exact up_r F fu _ _ _ _ _ _ _ _ h
        · exact up_r F fu _ _ _ _ _ _ _ _ h
      · cases h
    case block id x =>
      split at h
      · rename_i i r h1
        cases hb : Nat.beq i id with
        | true => rw [hb] at h; injection h with h; simp only [Prod.mk.injEq] at h; obtain ⟨rfl, rfl⟩ := h; exact up_r F fu _ _ _ _ _ _ _ _ h1
        | false => rw [hb] at h; injection h with h; simp only [Prod.mk.injEq] at h; obtain ⟨rfl, rfl⟩ := h; exact up_r F fu _ _ _ _ _ _ _ _ h1
      · rename_i r h1; injection h with h; simp only [Prod.mk.injEq] at h; obtain ⟨rfl, rfl⟩ := h; exact up_r F fu _ _ _ _ _ _ _ _ h1
      · rename_i r h1; injection h with h; simp only [Prod.mk.injEq] at h; obtain ⟨rfl, rfl⟩ := h; exact up_r F fu _ _ _ _ _ _ _ _ h1
      · cases h
    case rangeFunc g ps asg body =>
      obtain ⟨_, h⟩ := bif_none h
      split at h
      · rename_i e1 s1 h1
        injection h with h; simp only [Prod.mk.injEq] at h; obtain ⟨rfl, rfl, rfl, rfl⟩ := h
        exact up_rf F h1
      · cases h
    case region id ops draw =>
      split at h
      · rename_i e1 T1 s1 h1
        injection h with h; simp only [Prod.mk.injEq] at h; obtain ⟨rfl, rfl, rfl, rfl⟩ := h
        exact upC _ _ _ _ _ _ _ h1
      · cases h
    case loop x =>
      split at h
      · rename_i e1 T1 s1 h1
        injection h with h; simp only [Prod.mk.injEq] at h; obtain ⟨rfl, rfl, rfl, rfl⟩ := h
        exact upC _ _ _ _ _ _ _ h1
      · cases h
    all_goals cases h
theorem r_sound (F : Fit P ext) {nt : Nat} : ∀ (fu : Nat) (c : Code) (T : Tr Value) (s : St) (m : Bool) (e : Ex) (T' : Tr Value) (s' : St) (m' : Bool), evR P ext nt fu c T s m = some (e, T', s', m') → (∀ p ∈ s'.ob, p.1 = p.2) →
    ∀ b ι D a w, b ≤ w.heap.size → TR ι nt D T a → Mk b m D ι w → Emb P ι s.h.get w → Fresh ι s.n s'.n → c.wpIn (Fr none) 0 P (PostR b P ι s w nt e T' s' m') a w
  | 0, _, _, _, _, _, _, _, _, h => by simp [evR] at h
  | fu + 1, c, T, s, m, e, T', s', m', h => by
    intro ho b ι D a w hbw hT hM he hf
    have code : ∀ {c : Code} {e1 : Ex} {T1 : Tr Value} {s1 : St}, evCode P ext nt (fu + 1) c T s = some (e1, T1, s1) → (∀ p ∈ s1.ob, p.1 = p.2) → Fresh ι s.n s1.n → c.wpIn (Fr none) 0 P (PostR b P ι s w nt e1 T1 s1 m) a w := fun h1 ho1 hf1 => by
      refine (wpIn_wide (n := 0)).2 (wp_mono ((sound_all F (fu + 1)).1 nt _ T s _ _ _ h1 ho1 ι D a w hT he hf1) ?_)
      rintro ex a1 w1 ⟨rfl, ι1, g1, g2, g3⟩
      exact ⟨rfl, ι1, D, g1, g2, g3, hM.step g1⟩
    have two : ∀ {ι1 : Ren} {s1 : St} {w1 : World}, Step P ι s.h.get w ι1 s1.h.get w1 → Dom ι ι1 s.n s1.n → s.n ≤ s1.n → s1.n ≤ s'.n → ∀ ex a W, PostR b P ι1 s1 w1 nt e T' s' m' ex a W → PostR b P ι s w nt e T' s' m' ex a W :=
      fun hS hd h1 h2 ex a W ⟨hx, ι', D', k1, k2, k3, k4⟩ => ⟨hx, ι', D', hS.trans k1, hd.trans k2 h1 h2, k3, k4⟩
    cases c <;> simp only [evR] at h
    case skip => injection h with h; simp only [Prod.mk.injEq] at h; obtain ⟨rfl, rfl, rfl, rfl⟩ := h; exact wpIn_skip ⟨rfl, ι, D, Step.refl he, Dom.refl, hT, hM⟩
    case ret => injection h with h; simp only [Prod.mk.injEq] at h; obtain ⟨rfl, rfl, rfl, rfl⟩ := h; exact wpIn_ret ⟨rfl, ι, D, Step.refl he, Dom.refl, hT, hM⟩
    case exit id => injection h with h; simp only [Prod.mk.injEq] at h; obtain ⟨rfl, rfl, rfl, rfl⟩ := h; exact wpIn_exit ⟨rfl, ι, D, Step.refl he, Dom.refl, hT, hM⟩
    case seq x y =>
      split at h
      · rename_i T1 s1 m1 h1
        have u1 := up_r F fu _ _ _ _ _ _ _ _ h1
        have u2 := up_r F fu _ _ _ _ _ _ _ _ h
        refine wpIn_seq (wpIn_mono (r_sound F fu x T s m .normal T1 s1 m1 h1 (suffix_ob u2.ob ho) b ι D a w hbw hT hM he (hf.mono (Nat.le_refl _) u2.n)) ?_)
        rintro ex a1 w1 ⟨rfl, ι1, D1, g1, g2, g3, g4⟩
        exact wpIn_mono (r_sound F fu y T1 s1 m1 e T' s' m' h ho b ι1 D1 a1 w1 (Nat.le_trans hbw g1.size) g3 g4 g1.emb (hf.after g2 u1.n)) (two g1 g2 u1.n u2.n)
      · rename_i i r h1
        injection h with h; simp only [Prod.mk.injEq] at h; obtain ⟨rfl, rfl⟩ := h
        refine wpIn_seq (wpIn_mono (r_sound F fu x T s m _ _ _ _ h1 ho b ι D a w hbw hT hM he hf) ?_)
        rintro ex a1 w1 ⟨rfl, hq⟩
        exact ⟨rfl, hq⟩
      · rename_i r h1
        injection h with h; simp only [Prod.mk.injEq] at h; obtain ⟨rfl, rfl⟩ := h
        refine wpIn_seq (wpIn_mono (r_sound F fu x T s m _ _ _ _ h1 ho b ι D a w hbw hT hM he hf) ?_)
        rintro ex a1 w1 ⟨rfl, hq⟩
        exact ⟨rfl, hq⟩
      · cases h
    case cond x y z =>
      split at h
      · rename_i t ht
        have hx : a.eval x = .bool t := evalG_bool ((ht ▸ hT.opnd x : VR ι (.bool t) (evalG a x)).bool_inv)
        split at h
        · exact wpIn_cond_true hx (r_sound F fu y T s m e T' s' m' h ho b ι D a w hbw hT hM he hf)
        · exact wpIn_cond_false hx (r_sound F fu z T s m e T' s' m' h ho b ι D a w hbw hT hM he hf)
      · cases h
    case block id x =>
      split at h
      · rename_i i r h1
        cases hb : Nat.beq i id with
        | true =>
          rw [hb] at h
          injection h with h; simp only [Prod.mk.injEq] at h; obtain ⟨rfl, rfl⟩ := h
          refine wpIn_block (wpIn_mono (r_sound F fu x T s m _ _ _ _ h1 ho b ι D a w hbw hT hM he hf) ?_)
          rintro ex a1 w1 ⟨rfl, hq⟩
          show if i = id then _ else _
          rw [if_pos (Nat.eq_of_beq_eq_true hb)]
          exact ⟨rfl, hq⟩
        | false =>
          rw [hb] at h
          injection h with h; simp only [Prod.mk.injEq] at h; obtain ⟨rfl, rfl⟩ := h
          refine wpIn_block (wpIn_mono (r_sound F fu x T s m _ _ _ _ h1 ho b ι D a w hbw hT hM he hf) ?_)
          rintro ex a1 w1 ⟨rfl, hq⟩
          show if i = id then _ else _
          rw [if_neg (fun e => by rw [beqT e] at hb; cases hb)]
          exact ⟨rfl, hq⟩
      · rename_i r h1
        injection h with h; simp only [Prod.mk.injEq] at h; obtain ⟨rfl, rfl⟩ := h
        refine wpIn_block (wpIn_mono (r_sound F fu x T s m _ _ _ _ h1 ho b ι D a w hbw hT hM he hf) ?_)
        rintro ex a1 w1 ⟨rfl, hq⟩
        exact ⟨rfl, hq⟩
      · rename_i r h1
        injection h with h; simp only [Prod.mk.injEq] at h; obtain ⟨rfl, rfl⟩ := h
        refine wpIn_block (wpIn_mono (r_sound F fu x T s m _ _ _ _ h1 ho b ι D a w hbw hT hM he hf) ?_)
        rintro ex a1 w1 ⟨rfl, hq⟩
        exact ⟨rfl, hq⟩
      · cases h
    case rangeFunc g ps asg body =>
      obtain ⟨hm, h⟩ := bif_none h
      split at h
      · rename_i e1 s1 h1
        injection h with h; simp only [Prod.mk.injEq] at h; obtain ⟨rfl, rfl, rfl, rfl⟩ := h
        subst hm
        obtain rfl : D = [] := hM
        exact rf_sound F h1 ho hbw hT he hf
      · cases h
    case region id ops draw =>
      split at h
      · rename_i e1 T1 s1 h1
        injection h with h; simp only [Prod.mk.injEq] at h; obtain ⟨rfl, rfl, rfl, rfl⟩ := h
        exact code h1 ho hf
      · cases h
    case loop x =>
      split at h
      · rename_i e1 T1 s1 h1
        injection h with h; simp only [Prod.mk.injEq] at h; obtain ⟨rfl, rfl, rfl, rfl⟩ := h
        exact code h1 ho hf
      · cases h
    all_goals cases h
/-- A FUNCTION WITH A RANGE OVER A FUNCTION DOES WHAT THE RUNNER SAYS OF IT. -/
theorem callr_does (F : Fit P ext) {fu : Nat} {f : FuncId} {fn : Func} {c : Code} (hfn : P.funcs[f]? = some fn) (hb : fn.body = some c) : Does P f (evCallR P ext fu f) := by
  refine ⟨⟨fn, c, hfn, hb⟩, fun args s v s' h => ?_, fun args s v s' h ho ι w args' ha he hf => ?_⟩
  · unfold evCallR at h
    rw [hfn] at h
    simp only [hb] at h
    replace h := (bif_some h).2
    split at h
    · cases h
    · rename_i h1
      have u := up_r F fu _ _ _ _ _ _ _ _ h1
      split at h
      · injection h with h; injection h with q1 q2; subst q2; exact u
      · injection h with h; injection h with q1 q2; subst q2; exact u
      · cases h
    · cases h
  · unfold evCallR at h
    rw [hfn] at h
    simp only [hb] at h
    obtain ⟨hsz, h⟩ := bif_some h
    have hle : args.size ≤ fn.ntmps := Nat.le_of_ble_eq_true hsz
    split at h
    · cases h
    · rename_i ex T1 s1 m1 hne h1
      have hs : s' = s1 ∧ (match resultsT P T1 s1 fn.results.toList with | some [v] => some v | some vs => some (.tuple vs.toArray) | none => none) = some v := by
        split at h
        · rename_i hr; injection h with h; injection h with q1 q2; subst q1 q2; exact ⟨rfl, by rw [hr]⟩
        · rename_i vs hn hr; injection h with h; injection h with q1 q2; subst q1 q2
          refine ⟨rfl, ?_⟩
          rw [hr]
          rcases vs with _ | ⟨x, _ | ⟨y, vs⟩⟩
          · rfl
          · exact absurd rfl (hn x)
          · rfl
        · cases h
      obtain ⟨rfl, hres⟩ := hs
      refine (callsIn_wide (n := 0)).1 (callsIn_of_wp_marks hfn hb trivial (wpIn_mono (r_sound F fu c _ s false ex T1 s' m1 h1 ho w.heap.size ι [] _ w (Nat.le_refl _) (args_TR ha hle) rfl he hf) ?_))
      rintro e2 a2 w2 ⟨rfl, ι2, D2, g1, g2, g3, g4⟩
      have fin : LeavesInM (Fr none) 0 P fn a2.tmps (PostV P ι s w v s') a2.defers .returning w2 := by
        rw [g3.2.1]
        cases m1 with
        | false =>
          obtain rfl : D2 = [] := g4
          obtain ⟨v', hrun, hv⟩ := results_run g3 g1.emb hres
          exact ⟨v', hrun, v', ι2, rfl, g1, g2, hv⟩
        | true =>
          obtain ⟨K, hKw, rfl, hk, hn⟩ := g4
          have g1' := g1.put hKw hn (.deferred none)
          obtain ⟨v', hrun, hv⟩ := results_run g3 g1'.emb hres
          exact ⟨by simp, .inl ⟨K, _, rfl, run_takeDeferred hk, v', hrun, v', ι2, rfl, g1', g2, hv⟩⟩
      cases ex with
      | normal => exact fin
      | ret => exact fin
      | exit i => exact (hne i rfl).elim
    · cases h
end
end Ev
end Go.Proofs.YtldlnclkdgfahaaGreat
