/- CheckRound: mates go round, and what the plain functions come to. -/
import Derived.Test.YtpgbennpiihajaaKoh
namespace Go.Proofs.Ytpgbennpiihajaa
open Go.RowKit
namespace Ev
set_option linter.unusedVariables false
set_option linter.unusedSimpArgs false

namespace Ko
abbrev opA (L : List R_iiii) (k : Nat) : Int := (L.getD k R_iiii.z).a0
abbrev sA (L : List R_iiii) (k j : Nat) : R_ii := (skL L k).getD j R_ii.z
def own (L : List R_iiii) (e : Nat) : Int := (lastP (skL L e)).a0
def Clo (L : List R_iiii) (M : List Int) (k b : Nat) : Prop := (∃ e : Nat, b < e ∧ e < k ∧ opA L e = 17 ∧ M.getD b 0 = (e : Int) ∧ M.getD e 0 = (b : Int)) ∨
  (∃ e f : Nat, b < e ∧ e < f ∧ f < k ∧ opA L e = 16 ∧ opA L f = 17 ∧ own L e = (b : Int) ∧ M.getD b 0 = (e : Int) ∧ M.getD e 0 = (f : Int) ∧ M.getD f 0 = (b : Int))
def Ent (L : List R_iiii) (M : List Int) (k : Nat) (s : R_ii) : Prop := ∃ b : Nat, s.a0 = (b : Int) ∧ b < k ∧ opA L b = 15 ∧
  (s.a1 < 0 ∨ ∃ e : Nat, s.a1 = (e : Int) ∧ b < e ∧ e < k ∧ opA L e = 16 ∧ own L e = (b : Int) ∧ M.getD b 0 = (e : Int))
theorem clo_keep {L : List R_iiii} {M M' : List Int} {k k' b : Nat} (hk : k ≤ k') (hb : b < k) (h : Clo L M k b) (keep : ∀ i, i < k → (i = b ∨ (opA L i = 16 ∧ own L i = (b : Int)) ∨ opA L i = 17) → M'.getD i 0 = M.getD i 0) : Clo L M' k' b := by
  rcases h with ⟨e, h1, h2, h3, h4, h5⟩ | ⟨e, f, h1, h2, h3, h4, h5, h6, h7, h8, h9⟩
  · exact .inl ⟨e, h1, by omega, h3, (keep b hb (.inl rfl)).trans h4, (keep e h2 (.inr (.inr h3))).trans h5⟩
  · exact .inr ⟨e, f, h1, h2, by omega, h4, h5, h6, (keep b hb (.inl rfl)).trans h7, (keep e (by omega) (.inr (.inl ⟨h4, h6⟩))).trans h8, (keep f h3 (.inr (.inr h5))).trans h9⟩
theorem ent_keep {L : List R_iiii} {M M' : List Int} {k k' : Nat} {s : R_ii} (hk : k ≤ k') (h : Ent L M k s) (keep : ∀ i : Nat, s.a0 = (i : Int) → i < k → opA L i = 15 → M'.getD i 0 = M.getD i 0) : Ent L M' k' s := by
  obtain ⟨b, h1, h2, h3, h4⟩ := h
  refine ⟨b, h1, by omega, h3, ?_⟩
  rcases h4 with h4 | ⟨e, e1, e2, e3, e4, e5, e6⟩
  · exact .inl h4
  · exact .inr ⟨e, e1, e2, by omega, e4, e5, (keep b h1 h2 h3).trans e6⟩
structure RInv (L : List R_iiii) (k : Nat) : Prop where
  ent : ∀ j, j < (skL L k).length → Ent L (mtL L k) k (sA L k j)
  inc : ∀ i j, i < j → j < (skL L k).length → (sA L k i).a0 < (sA L k j).a0
  clo : ∀ b, b < k → opA L b = 15 → (∃ j, j < (skL L k).length ∧ (sA L k j).a0 = (b : Int)) ∨ Clo L (mtL L k) k b
theorem app_old {L : List R_iiii} {k i : Nat} (h : i < k) : (mtL L k ++ [-1]).getD i 0 = (mtL L k).getD i 0 := getD_app_left (by rw [mt_len]; exact h)
theorem step {L : List R_iiii} {N k : Nat} (hr : Rel (skL L k) (opn L k)) (hok : okB L N k = true) (h : RInv L k) : RInv L (k + 1) := by
  obtain ⟨o1, o2⟩ := ok_and hok
  have hml := mt_len L k
  by_cases h15 : opA L k = 15
  · have e1 : skL L (k + 1) = skL L k ++ [⟨(k : Int), -1⟩] := by rw [skL, stk, if_pos h15]
    have e2 : mtL L (k + 1) = mtL L k ++ [-1] := by rw [mtL, mtk, if_neg (fun h => by have h' : (L.getD k R_iiii.z).a0 = 15 := h15; omega), if_neg (fun h => by have h' : (L.getD k R_iiii.z).a0 = 15 := h15; omega)]
    have a1 : ∀ j, j < (skL L k).length → sA L (k + 1) j = sA L k j := fun j hj => by unfold sA; rw [e1, getD_app_left hj]
    have a2 : sA L (k + 1) (skL L k).length = ⟨(k : Int), -1⟩ := by unfold sA; rw [e1, getD_snoc]
    have hl : (skL L (k + 1)).length = (skL L k).length + 1 := by rw [e1]; simp
    refine ⟨fun j hj => ?_, fun i j hij hj => ?_, fun b hb hob => ?_⟩
    · by_cases e : j < (skL L k).length
      · rw [a1 j e, e2]; exact ent_keep (by omega) (h.ent j e) fun i _ hi _ => app_old hi
      · obtain rfl : j = (skL L k).length := by omega
        rw [a2]; exact ⟨k, rfl, by omega, h15, .inl (show (-1 : Int) < 0 by decide)⟩
    · by_cases e : j < (skL L k).length
      · rw [a1 i (by omega), a1 j e]; exact h.inc i j hij e
      · obtain rfl : j = (skL L k).length := by omega
        rw [a1 i hij, a2]
        obtain ⟨b, b1, b2, -⟩ := h.ent i hij
        rw [b1]; show (b : Int) < (k : Int); omega
    · by_cases e : b < k
      · rcases h.clo b e hob with ⟨j, j1, j2⟩ | hc
        · exact .inl ⟨j, by omega, by rw [a1 j j1]; exact j2⟩
        · rw [e2]; exact .inr (clo_keep (by omega) e hc fun i hi _ => app_old hi)
      · obtain rfl : b = k := by omega
        exact .inl ⟨(skL L b).length, by omega, by rw [a2]⟩
  · by_cases h16 : opA L k = 16
    · have hp : 0 < (skL L k).length := by rw [hr.1]; exact open_of o2 (.inl h16)
      obtain ⟨b0, b1, b2, b3, b4⟩ := h.ent ((skL L k).length - 1) (by omega)
      have ht : lastP (skL L k) = sA L k ((skL L k).length - 1) := rfl
      have e1 : skL L (k + 1) = (skL L k).set ((skL L k).length - 1) ⟨(b0 : Int), (k : Int)⟩ := by rw [skL, stk, if_neg h15, if_pos h16, ht, b1]
      have e2 : mtL L (k + 1) = (mtL L k ++ [-1]).set b0 (k : Int) := by rw [mtL, mtk, if_pos h16, ht, b1, Int.toNat_natCast]
      have hl : (skL L (k + 1)).length = (skL L k).length := by rw [e1]; simp
      have a1 : ∀ j, j < (skL L k).length → j ≠ (skL L k).length - 1 → sA L (k + 1) j = sA L k j := fun j hj hne => by unfold sA; rw [e1, getD_set_ne (fun h => hne h.symm)]
      have a2 : sA L (k + 1) ((skL L k).length - 1) = ⟨(b0 : Int), (k : Int)⟩ := by unfold sA; rw [e1, getD_set_same (by omega)]
      have a3 : ∀ j, j < (skL L k).length → (sA L (k + 1) j).a0 = (sA L k j).a0 := fun j hj => by
        by_cases e : j = (skL L k).length - 1
        · rw [e, a2, b1]
        · rw [a1 j hj e]
      have m1 : (mtL L (k + 1)).getD b0 0 = (k : Int) := by rw [e2, getD_set_same (by simp; omega)]
      have m2 : ∀ i, i < k → i ≠ b0 → (mtL L (k + 1)).getD i 0 = (mtL L k).getD i 0 := fun i hi hne => by rw [e2, getD_set_ne (fun h => hne h.symm)]; exact app_old hi
      refine ⟨fun j hj => ?_, fun i j hij hj => ?_, fun b hb hob => ?_⟩
      · by_cases e : j = (skL L k).length - 1
        · rw [e, a2]
          exact ⟨b0, rfl, by omega, b3, .inr ⟨k, rfl, b2, by omega, h16, by unfold own; rw [ht, b1], m1⟩⟩
        · rw [a1 j (by omega) e]
          refine ent_keep (by omega) (h.ent j (by omega)) fun i hi hik _ => m2 i hik fun he => ?_
          have := h.inc j ((skL L k).length - 1) (by omega) (by omega)
          rw [b1, hi, he] at this
          omega
      · rw [a3 i (by omega), a3 j (by omega)]; exact h.inc i j hij (by omega)
      · have hbk : b < k := by
          by_cases e : b = k
          · rw [e] at hob; omega
          · omega
        rcases h.clo b hbk hob with ⟨j, j1, j2⟩ | hc
        · exact .inl ⟨j, by omega, by rw [a3 j j1]; exact j2⟩
        · by_cases e : b = b0
          · exact .inl ⟨(skL L k).length - 1, by omega, by rw [a2, e]⟩
          · refine .inr (clo_keep (by omega) hbk hc fun i hi hx => m2 i hi fun he => ?_)
            rcases hx with hx | hx | hx
            · exact e (hx.symm.trans he)
            · rw [he] at hx; omega
            · rw [he] at hx; omega
    · by_cases h17 : opA L k = 17
      · have hp : 0 < (skL L k).length := by rw [hr.1]; exact open_of o2 (.inr h17)
        obtain ⟨b0, b1, b2, b3, b4⟩ := h.ent ((skL L k).length - 1) (by omega)
        have ht : lastP (skL L k) = sA L k ((skL L k).length - 1) := rfl
        have e1 : skL L (k + 1) = (skL L k).take ((skL L k).length - 1) := by rw [skL, stk, if_neg h15, if_neg h16, if_pos h17]
        obtain ⟨x, hx, hxk, hxm, hxn⟩ : ∃ x : Nat, mtL L (k + 1) = ((mtL L k ++ [-1]).set x (k : Int)).set k (b0 : Int) ∧ x < k ∧
            ((x = b0) ∨ (b0 < x ∧ opA L x = 16 ∧ own L x = (b0 : Int) ∧ (mtL L k).getD b0 0 = (x : Int))) ∧ True := by
          rcases b4 with b4 | ⟨e, c1, c2, c3, c4, c5, c6⟩
          · refine ⟨b0, ?_, b2, .inl rfl, trivial⟩
            rw [mtL, mtk, if_neg h16, if_pos h17, ht, if_neg (by omega), b1, Int.toNat_natCast]
          · refine ⟨e, ?_, c3, .inr ⟨c2, c4, c5, c6⟩, trivial⟩
            rw [mtL, mtk, if_neg h16, if_pos h17, ht, if_pos (by omega), b1, c1, Int.toNat_natCast]
        have hl : (skL L (k + 1)).length = (skL L k).length - 1 := by rw [e1]; simp
        have a1 : ∀ j, j < (skL L k).length - 1 → sA L (k + 1) j = sA L k j := fun j hj => by unfold sA; rw [e1, getD_take hj]
        have m0 : (mtL L (k + 1)).getD k 0 = (b0 : Int) := by rw [hx, getD_set_same (by simp; omega)]
        have m1 : (mtL L (k + 1)).getD x 0 = (k : Int) := by rw [hx, getD_set_ne (by omega), getD_set_same (by simp; omega)]
        have m2 : ∀ i, i < k → i ≠ x → (mtL L (k + 1)).getD i 0 = (mtL L k).getD i 0 := fun i hi hne => by rw [hx, getD_set_ne (by omega), getD_set_ne (fun h => hne h.symm)]; exact app_old hi
        have new : Clo L (mtL L (k + 1)) (k + 1) b0 := by
          rcases hxm with e | ⟨c2, c4, c5, c6⟩
          · exact .inl ⟨k, by omega, by omega, h17, by rw [← e]; exact m1, m0⟩
          · exact .inr ⟨x, k, c2, hxk, by omega, c4, h17, c5, (m2 b0 b2 (by omega)).trans c6, m1, m0⟩
        refine ⟨fun j hj => ?_, fun i j hij hj => ?_, fun b hb hob => ?_⟩
        · rw [a1 j (by omega)]
          refine ent_keep (by omega) (h.ent j (by omega)) fun i hi hik hi15 => m2 i hik fun he => ?_
          have := h.inc j ((skL L k).length - 1) (by omega) (by omega)
          rw [b1, hi] at this
          rcases hxm with e | ⟨c2, c4, c5, c6⟩
          · omega
          · rw [he] at hi15; omega
        · rw [a1 i (by omega), a1 j (by omega)]; exact h.inc i j hij (by omega)
        · have hbk : b < k := by
            by_cases e : b = k
            · rw [e] at hob; omega
            · omega
          by_cases e : b = b0
          · rw [e]; exact .inr new
          · rcases h.clo b hbk hob with ⟨j, j1, j2⟩ | hc
            · by_cases ej : j = (skL L k).length - 1
              · rw [ej, b1] at j2; omega
              · exact .inl ⟨j, by omega, by rw [a1 j (by omega)]; exact j2⟩
            · refine .inr (clo_keep (by omega) hbk hc fun i hi hy => m2 i hi fun he => ?_)
              rcases hxm with ex | ⟨c2, c4, c5, c6⟩
              · rcases hy with hy | hy | hy
                · omega
                · rw [he, ex] at hy; omega
                · rw [he, ex] at hy; omega
              · rcases hy with hy | hy | hy
                · rw [← hy, he] at hob; omega
                · rw [he, c5] at hy; omega
                · rw [he] at hy; omega
      · have e1 : skL L (k + 1) = skL L k := by rw [skL, stk, if_neg h15, if_neg h16, if_neg h17]
        have e2 : mtL L (k + 1) = mtL L k ++ [-1] := by rw [mtL, mtk, if_neg h16, if_neg h17]
        have a1 : ∀ j, sA L (k + 1) j = sA L k j := fun j => by unfold sA; rw [e1]
        refine ⟨fun j hj => ?_, fun i j hij hj => ?_, fun b hb hob => ?_⟩
        · rw [a1, e2]; exact ent_keep (by omega) (h.ent j (by rw [← e1]; exact hj)) fun i _ hi _ => app_old hi
        · rw [a1, a1]; exact h.inc i j hij (by rw [← e1]; exact hj)
        · have hbk : b < k := by
            by_cases e : b = k
            · rw [e] at hob; omega
            · omega
          rcases h.clo b hbk hob with ⟨j, j1, j2⟩ | hc
          · exact .inl ⟨j, by rw [e1]; exact j1, by rw [a1 j]; exact j2⟩
          · rw [e2]; exact .inr (clo_keep (by omega) hbk hc fun i hi _ => app_old hi)
theorem all {L : List R_iiii} {N : Nat} : ∀ k, (∀ j, j < k → okB L N j = true) → RInv L k
  | 0, _ => ⟨fun j hj => absurd hj (Nat.not_lt_zero j), fun i j _ hj => absurd hj (Nat.not_lt_zero j), fun b hb _ => absurd hb (Nat.not_lt_zero b)⟩
  | k + 1, h => step (inv k fun j hj => h j (by omega)).1 (h k (by omega)) (all k fun j hj => h j (by omega))
theorem closed {L : List R_iiii} {n N : Nat} (hc : checkP L n N = 0) {b : Nat} (hb : b < n) (h15 : opA L b = 15) : Clo L (mtL L n) n b := by
  obtain ⟨f1, f2, f3, f4⟩ := fit_is hc
  rcases (all n f2).clo b hb h15 with ⟨j, j1, -⟩ | h
  · rw [(inv n f2).1.1, f3] at j1; exact absurd j1 (Nat.not_lt_zero j)
  · exact h
section
variable {L : List R_iiii} {n0 c0 n c N : Nat}
theorem go (hn : n ≤ L.length) (hL : n ≤ 512) (hc : checkP L n N = 0) : ∀ d k f, k + d = n → d < f → iter (law12_CheckRoundStep L n0 c0 N) f (.h1m1 n c (mtL L n) k) = some (.r0 true) := by
  have hml := mt_len L n
  intro d
  induction d with
  | zero =>
    intro k f hk hf
    obtain ⟨f, rfl⟩ : ∃ j, f = j + 1 := ⟨f - 1, by omega⟩
    refine iter_done ?_
    show law12_CheckRound_h1m1 L n0 c0 N n c (mtL L n) k = _
    unfold law12_CheckRound_h1m1
    exact ite_no (by omega) (ite_yes (by omega) rfl)
  | succ d ih =>
    intro k f hk hf
    obtain ⟨f, rfl⟩ : ∃ j, f = j + 1 := ⟨f - 1, by omega⟩
    refine (iter_next (y := .h1m1 n c (mtL L n) (k + 1)) ?_).trans (ih (k + 1) f (by omega) (by omega))
    show law12_CheckRound_h1m1 L n0 c0 N n c (mtL L n) k = _
    unfold law12_CheckRound_h1m1
    refine ite_yes (by omega) (ite_yes (by omega) (ite_yes (by omega) (ite_eq (fun _ => ite_yes (by omega) rfl) (fun h15 => ?_))))
    rcases closed hc (show k < n by omega) (Decidable.not_not.1 h15) with ⟨e, h1, h2, h3, h4, h5⟩ | ⟨e, f', h1, h2, h3, h4, h5, h6, h7, h8, h9⟩
    · rw [h4, Int.toNat_natCast, h5]
      refine ite_yes (by omega) (ite_yes (by omega) (ite_yes (by omega) (ite_no (by have : opA L e = 17 := h3; unfold opA at this; omega) (ite_no (fun h => h h3) (ite_no (fun h => h rfl) (ite_yes (by omega) rfl))))))
    · rw [h7, Int.toNat_natCast, h8, Int.toNat_natCast, h9]
      exact ite_yes (by omega) (ite_yes (by omega) (ite_yes (by omega) (ite_yes h4 (ite_no (by omega) (ite_no (by omega) (ite_yes (by omega) (ite_no (fun h => h h5) (ite_no (fun h => h rfl) (ite_yes (by omega) rfl)))))))))
end
theorem mates_P {L : List R_iiii} {n c N : Nat} (hn : n ≤ L.length) (hL : n ≤ 512) (hN : 520 ≤ N) : check_Mates L n c N = some (if checkP L n N = 0 then .r1 (mtL L n) else .r0 (checkP L n N)) := by
  obtain ⟨r, h1, h2, h3, h4⟩ := look_all (c := c) hn hL hN
  refine bind_to h1 ?_
  by_cases hc : checkP L n N = 0
  · obtain ⟨e0, e1, -⟩ := h4 hc
    obtain ⟨f1, f2, f3, f4⟩ := fit_is hc
    obtain ⟨g1, g2⟩ := brs_end f2 (by rw [f3]; rfl)
    rw [if_pos hc]
    rw [hc] at h3
    cases r with
    | r0 e => exact absurd (congrArg List.length e0) (by rw [g1]; show ¬ 0 = _; omega)
    | r1 w e => exact absurd (congrArg List.length e0) (by rw [g1]; show ¬ 0 = _; omega)
    | r2 s b m d dd w e =>
      have h3 : e = 0 := h3
      have e1 : m = _ := e1
      rw [e1]; exact ite_no (fun h => h h3) rfl
    | r3 b m w e =>
      have h3 : e = 0 := h3
      have e1 : m = _ := e1
      rw [e1]; exact ite_no (fun h => h h3) rfl
  · rw [if_neg hc]
    cases r with
    | r0 e => have h3 : e = _ := h3; rw [h3]; exact ite_yes hc rfl
    | r1 w e => have h3 : e = _ := h3; rw [h3]; exact ite_yes hc rfl
    | r2 s b m d dd w e => have h3 : e = _ := h3; rw [h3]; exact ite_yes hc rfl
    | r3 b m w e => have h3 : e = _ := h3; rw [h3]; exact ite_yes hc rfl
theorem runs (L : List R_iiii) (n c : Nat) (hn : n ≤ L.length) (hc : n ≤ c) : law12_CheckRound L n c 100000 = some (.r0 true) := by
  have fin : ∀ n' c' : Nat, n' ≤ L.length → n' ≤ 60 → goM (law12_CheckRoundStep L n c 100000) 100000 (if checkP L n' 100000 = 0 then some (Sum.inl (.h1m1 n' c' (mtL L n') 0)) else some (Sum.inr (.r0 true))) = some (.r0 true) := by
    intro n' c' h1 h2
    by_cases h : checkP L n' 100000 = 0
    · rw [if_pos h]; exact (goM_in rfl).trans (go h1 (by omega) h n' 0 100000 (by omega) (by omega))
    · rw [if_neg h]; exact goM_out rfl
  have mid : ∀ n' c' : Nat, n' ≤ L.length → n' ≤ 60 → ((check_Mates L n' c' 100000).bind fun r => match r with
      | .r0 y2_0 => if ¬ (y2_0 = (0 : Int)) then (some (Sum.inr (.r0 (true) : law12_CheckRoundR)) : Option (law12_CheckRoundX ⊕ law12_CheckRoundR)) else some (Sum.inl (.h1m0 n' c' : law12_CheckRoundX))
      | .r1 y2_0 => some (Sum.inl (.h1m1 n' c' y2_0 0 : law12_CheckRoundX))) = (if checkP L n' 100000 = 0 then some (Sum.inl (.h1m1 n' c' (mtL L n') 0)) else some (Sum.inr (.r0 true))) := by
    intro n' c' h1 h2
    refine bind_to (mates_P h1 (by omega) (by decide)) ?_
    by_cases h : checkP L n' 100000 = 0
    · rw [if_pos h, if_pos h]
    · rw [if_neg h, if_neg h]; exact ite_yes h rfl
  unfold law12_CheckRound
  by_cases h : (60 : Int) < (n : Int)
  · have : law12_CheckRoundIn L n c 100000 = _ := ite_yes h (ite_yes (by omega) (mid (60 - 0) (c - 0) (by omega) (by omega)))
    rw [this]
    exact fin _ _ (by omega) (by omega)
  · have : law12_CheckRoundIn L n c 100000 = _ := ite_no h (mid n c (by omega) (by omega))
    rw [this]
    exact fin _ _ (by omega) (by omega)
theorem runs2 : law12_CheckRound_2 100000 = some .r0 := rfl
end Ko
end Ev
end Go.Proofs.Ytpgbennpiihajaa
