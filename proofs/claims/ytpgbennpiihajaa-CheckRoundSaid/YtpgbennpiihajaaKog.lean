/- The program's look, and the document's answer: where something is wrong first, and why. -/
import Derived.Test.YtpgbennpiihajaaKoz
namespace Go.Proofs.Ytpgbennpiihajaa
open Go.RowKit
namespace Ev
set_option linter.unusedVariables false
set_option linter.unusedSimpArgs false

section
variable {L : List R_iiii} {n c N : Nat}
theorem lookF_bad {d k : Nat} (h : ¬ okB L N k = true) : lookF L n N (d + 1) k = ((k : Int), errI (opn L k) (L.getD k R_iiii.z) N) := by unfold lookF fb; rw [if_neg h]
theorem lookF_go {d k : Nat} (h : okB L N k = true) : lookF L n N (d + 1) k = lookF L n N d (k + 1) := by unfold lookF; rw [fb, if_pos h]
theorem lookF_end {k : Nat} : lookF L n N 0 k = if (opn L n).length = 0 then aimOut L n n 0 else ((n : Int), 120) := rfl
theorem err_ne {l : List R_ii} {x : R_iiii} {N : Nat} (h : ¬ (fineB x N && stepB l x.a0) = true) : errI l x N ≠ 0 := by
  unfold errI
  rw [if_neg h]
  split <;> decide
theorem ok_and {k : Nat} (h : okB L N k = true) : fineB (L.getD k R_iiii.z) N = true ∧ stepB (opn L k) (L.getD k R_iiii.z).a0 = true := by
  unfold okB at h; rwa [Bool.and_eq_true] at h
theorem all_next {k : Nat} (h : ∀ j, j < k → okB L N j = true) (hk : okB L N k = true) : ∀ j, j < k + 1 → okB L N j = true := fun j hj => by
  by_cases e : j < k
  · exact h j e
  · obtain rfl : j = k := by omega
    exact hk
theorem out_bad {d k : Nat} {r : check_lookR} (h : ¬ okB L N k = true) (h1 : rW r = (k : Int)) (h2 : rE r = errI (opn L k) (L.getD k R_iiii.z) N) : LkOut L n N (d + 1) k r := by
  unfold LkOut
  rw [lookF_bad h]
  exact ⟨h1, h2, fun e => absurd e (err_ne h)⟩
theorem brs_end (h : ∀ j, j < n → okB L N j = true) (h0 : (opn L n).length = 0) : (brs L n ++ [(⟨-1, 0⟩ : R_ii)]).length = n + 1 ∧ ∀ j, j ≤ n → (brs L n ++ [(⟨-1, 0⟩ : R_ii)]).getD j R_ii.z = brP (opn L j) := by
  refine ⟨by simp [brs_len], fun j hj => ?_⟩
  by_cases e : j < n
  · rw [getD_app_left (by rw [brs_len]; exact e)]; exact brs_get n h j e
  · obtain rfl : j = n := by omega
    have := getD_snoc (L := brs L j) (v := (⟨-1, 0⟩ : R_ii)) (d := R_ii.z)
    rw [brs_len] at this
    rw [this]; unfold brP; rw [if_pos h0]
/-- From a state with blocks on. -/
theorem look_from1 (hn : n ≤ L.length) (hL : n ≤ 512) (hN : 520 ≤ N) : ∀ d k f, k + d = n → d < f → (∀ j, j < k → okB L N j = true) →
    ∃ r, iter (check_lookStep L n c N) f (.h1m1 k (skL L k) (brs L k) (mtL L k) (blL L k) (dpL L k)) = some r ∧ LkOut L n N d k r := by
  intro d
  induction d with
  | zero =>
    intro k f hk hf ha
    obtain ⟨f, rfl⟩ : ∃ j, f = j + 1 := ⟨f - 1, by omega⟩
    obtain rfl : k = n := by omega
    obtain ⟨hr, hb⟩ := inv k ha
    by_cases h0 : (opn L k).length = 0
    · obtain ⟨g1, g2⟩ := brs_end ha h0
      refine ⟨.r2 (skL L k) (brs L k ++ [⟨-1, 0⟩]) (mtL L k) (blL L k) (dpL L k) (aimOut L k k 0).1 (aimOut L k k 0).2, iter_done ?_, ?_⟩
      · show check_look_h1m1 L k c N k _ _ _ _ _ = _
        unfold check_look_h1m1
        refine ite_no (by omega) (ite_no (by have := hr.1; omega) (ite_yes (by rw [brs_len]; omega) (bind_to (a := .r0 (aimOut L k k 0).1 (aimOut L k k 0).2) ?_ rfl)))
        exact aims_3_is hn hL (jf_of (by omega) ha) g1 g2 k 0 N (by omega) (by omega)
      · unfold LkOut
        rw [lookF_end, if_pos h0]
        exact ⟨rfl, rfl, fun _ => ⟨rfl, rfl, rfl, rfl⟩⟩
    · refine ⟨.r2 (skL L k) (brs L k) (mtL L k) (blL L k) (dpL L k) (k : Int) 120, iter_done ?_, ?_⟩
      · show check_look_h1m1 L k c N k _ _ _ _ _ = _
        unfold check_look_h1m1
        exact ite_no (by omega) (ite_yes (by have := hr.1; omega) rfl)
      · unfold LkOut
        rw [lookF_end, if_neg h0]
        exact ⟨rfl, rfl, fun e => absurd e (show (120 : Int) ≠ 0 by decide)⟩
  | succ d ih =>
    intro k f hk hf ha
    obtain ⟨f, rfl⟩ : ∃ j, f = j + 1 := ⟨f - 1, by omega⟩
    obtain ⟨hr, hb⟩ := inv k ha
    by_cases hok : okB L N k = true
    · obtain ⟨o1, o2⟩ := ok_and hok
      obtain ⟨r, h1, h2⟩ := ih (k + 1) f (by omega) (by omega) (all_next ha hok)
      refine ⟨r, (iter_next ?_).trans h1, ?_⟩
      · exact look_go (by omega) hn hL (by omega) hr (opn_len L k) hb (brs_len L k) (mt_len L k) (bl_len L k) o1 o2
      · unfold LkOut at h2 ⊢; rw [lookF_go hok]; exact h2
    · refine ⟨_, iter_done (look_no (by omega) hn (by omega) hr (opn_len L k) (err_ne hok)), out_bad hok rfl rfl⟩
/-- Nothing is open. -/
theorem refuse3 (x : R_iiii) {B : List R_ii} {M : List Int} {d w e : Int} (hN : 4 ≤ N) : check_scan_refuse_3 x.a0 x.a1 x.a2 x.a3 L n c B M d w e N = some (.r0 (errI [] x N)) := by
  obtain ⟨h1, h2, h3⟩ := fine_is x hN
  unfold check_scan_refuse_3 errI stepB
  generalize instr_Check x.a0 x.a1 x.a2 x.a3 N = q at h1 ⊢
  subst h1
  generalize fineB x N = b
  clear h2 h3
  generalize x.a0 = op
  by_cases h15 : op = 15
  · subst h15; cases b <;> simp
  · by_cases h16 : op = 16
    · subst h16; cases b <;> simp
    · by_cases h17 : op = 17
      · subst h17; cases b <;> simp
      · by_cases h18 : op = 18
        · subst h18; cases b <;> simp
        · by_cases h20 : op = 20
          · subst h20; cases b <;> simp
          · cases b <;> simp [h15, h16, h17, h18, h20]
theorem refuse1 (x : R_iiii) {d w e : Int} (hN : 4 ≤ N) : check_scan_refuse x.a0 x.a1 x.a2 x.a3 L n c d w e N = some (.r0 (errI [] x N)) := by
  obtain ⟨h1, h2, h3⟩ := fine_is x hN
  unfold check_scan_refuse errI stepB
  generalize instr_Check x.a0 x.a1 x.a2 x.a3 N = q at h1 ⊢
  subst h1
  generalize fineB x N = b
  clear h2 h3
  generalize x.a0 = op
  by_cases h15 : op = 15
  · subst h15; cases b <;> simp
  · by_cases h16 : op = 16
    · subst h16; cases b <;> simp
    · by_cases h17 : op = 17
      · subst h17; cases b <;> simp
      · by_cases h18 : op = 18
        · subst h18; cases b <;> simp
        · by_cases h20 : op = 20
          · subst h20; cases b <;> simp
          · cases b <;> simp [h15, h16, h17, h18, h20]
/-- Nothing is open, and nothing was. -/
def Clr (L : List R_iiii) (k : Nat) : Prop := skL L k = [] ∧ opn L k = [] ∧ blL L k = [] ∧ dpL L k = 0
theorem clr_next {k : Nat} (h : Clr L k) (h15 : (L.getD k R_iiii.z).a0 ≠ 15) (hok : okB L N k = true) : Clr L (k + 1) ∧ brs L (k + 1) = brs L k ++ [⟨-1, 0⟩] ∧ mtL L (k + 1) = mtL L k ++ [-1] ∧ (L.getD k R_iiii.z).a0 ≠ 16 ∧ (L.getD k R_iiii.z).a0 ≠ 17 := by
  obtain ⟨h1, h2, h3, h4⟩ := h
  obtain ⟨o1, o2⟩ := ok_and hok
  rw [h2] at o2
  unfold stepB at o2
  rw [if_neg h15] at o2
  by_cases h16 : (L.getD k R_iiii.z).a0 = 16
  · rw [if_pos h16] at o2; cases o2
  · rw [if_neg h16] at o2
    by_cases h17 : (L.getD k R_iiii.z).a0 = 17
    · rw [if_pos h17] at o2; cases o2
    · refine ⟨⟨?_, ?_, ?_, ?_⟩, ?_, ?_, h16, h17⟩
      · rw [skL, stk, if_neg h15, if_neg h16, if_neg h17]; exact h1
      · rw [opn, stepL, if_neg h15, if_neg h16, if_neg h17]; exact h2
      · rw [blL, blk, if_neg h15]; exact h3
      · rw [dpL, dpk, if_neg h15]; exact h4
      · rw [brs, h1]; rfl
      · rw [mtL, mtk, if_neg h16, if_neg h17]
theorem clr_begin {k : Nat} (h : Clr L k) (h15 : (L.getD k R_iiii.z).a0 = 15) : skL L (k + 1) = [⟨(k : Int), -1⟩] ∧ brs L (k + 1) = brs L k ++ [⟨-1, 0⟩] ∧ mtL L (k + 1) = mtL L k ++ [-1] ∧ blL L (k + 1) = [(k : Int)] ∧ dpL L (k + 1) = 1 := by
  obtain ⟨h1, h2, h3, h4⟩ := h
  refine ⟨?_, ?_, ?_, ?_, ?_⟩
  · rw [skL, stk, if_pos h15, h1]; rfl
  · rw [brs, h1]; rfl
  · rw [mtL, mtk, if_neg (by omega), if_neg (by omega)]
  · rw [blL, blk, if_pos h15, h1, h3]; rfl
  · rw [dpL, dpk, if_pos h15, h1, h4]; rfl
theorem look_from2 (hn : n ≤ L.length) (hL : n ≤ 512) (hN : 520 ≤ N) : ∀ d k f, k + d = n → d < f → (∀ j, j < k → okB L N j = true) → Clr L k →
    ∃ r, iter (check_lookStep L n c N) f (.h1m2 k (brs L k) (mtL L k)) = some r ∧ LkOut L n N d k r := by
  intro d
  induction d with
  | zero =>
    intro k f hk hf ha hc
    obtain ⟨f, rfl⟩ : ∃ j, f = j + 1 := ⟨f - 1, by omega⟩
    obtain rfl : k = n := by omega
    have h0 : (opn L k).length = 0 := by rw [hc.2.1]; rfl
    obtain ⟨g1, g2⟩ := brs_end ha h0
    refine ⟨.r3 (brs L k ++ [⟨-1, 0⟩]) (mtL L k) (aimOut L k k 0).1 (aimOut L k k 0).2, iter_done ?_, ?_⟩
    · show check_look_h1m2 L k c N k _ _ = _
      unfold check_look_h1m2
      refine ite_no (by omega) (ite_yes (by rw [brs_len]; omega) (bind_to (a := .r0 (aimOut L k k 0).1 (aimOut L k k 0).2) ?_ rfl))
      exact aims_2_is hn hL (jf_of (by omega) ha) g1 g2 k 0 N (by omega) (by omega)
    · unfold LkOut
      rw [lookF_end, if_pos h0]
      exact ⟨rfl, rfl, fun _ => ⟨rfl, rfl, hc.2.2.1.symm, hc.2.2.2.symm⟩⟩
  | succ d ih =>
    intro k f hk hf ha hc
    obtain ⟨f, rfl⟩ : ∃ j, f = j + 1 := ⟨f - 1, by omega⟩
    have hstep : ∀ x, check_look_h1m2 L n c N k (brs L k) (mtL L k) = x → check_lookStep L n c N (.h1m2 k (brs L k) (mtL L k)) = x := fun x h => h
    have hl1 := brs_len L k
    have hl2 := mt_len L k
    by_cases hok : okB L N k = true
    · obtain ⟨o1, o2⟩ := ok_and hok
      have he : errI [] (L.getD k R_iiii.z) N = 0 := by
        have : errI (opn L k) (L.getD k R_iiii.z) N = 0 := by unfold errI; rw [o1, o2]; rfl
        rw [hc.2.1] at this; exact this
      by_cases h15 : (L.getD k R_iiii.z).a0 = 15
      · obtain ⟨e1, e2, e3, e4, e5⟩ := clr_begin hc h15
        obtain ⟨r, h1, h2⟩ := look_from1 (c := c) hn hL hN d (k + 1) f (by omega) (by omega) (all_next ha hok)
        refine ⟨r, (iter_next ?_).trans h1, ?_⟩
        · refine hstep _ ?_
          unfold check_look_h1m2
          rw [e1, e2, e3, e4, e5]
          refine ite_yes (by omega) (ite_yes (by omega) (bind_to (refuse3 _ (by omega)) (ite_no (by rw [he]; decide) (bind_to (bind_to rfl (ite_yes (by omega) (ite_yes (by omega) (ite_yes h15 rfl)))) (ite_yes (by omega) rfl)))))
        · unfold LkOut at h2 ⊢; rw [lookF_go hok]; exact h2
      · obtain ⟨c1, e2, e3, h16, h17⟩ := clr_next hc h15 hok
        obtain ⟨r, h1, h2⟩ := ih (k + 1) f (by omega) (by omega) (all_next ha hok) c1
        refine ⟨r, (iter_next ?_).trans h1, ?_⟩
        · refine hstep _ ?_
          unfold check_look_h1m2
          rw [e2, e3]
          refine ite_yes (by omega) (ite_yes (by omega) (bind_to (refuse3 _ (by omega)) (ite_no (by rw [he]; decide) (bind_to (bind_to rfl (ite_yes (by omega) (ite_yes (by omega) (ite_no h15 (ite_no h16 (ite_no h17 rfl)))))) (ite_yes (by omega) rfl)))))
        · unfold LkOut at h2 ⊢; rw [lookF_go hok]; exact h2
    · have he := err_ne hok
      refine ⟨.r3 (brs L k) (mtL L k) (k : Int) (errI (opn L k) (L.getD k R_iiii.z) N), iter_done (hstep _ ?_), out_bad hok rfl rfl⟩
      unfold check_look_h1m2
      rw [hc.2.1] at he ⊢
      exact ite_yes (by omega) (ite_yes (by omega) (bind_to (refuse3 _ (by omega)) (ite_yes he rfl)))
/-- A program, from its first instruction on. -/
theorem look_is (h1 : 1 ≤ n) (hn : n ≤ L.length) (hL : n ≤ 512) (hN : 520 ≤ N) : ∃ r, check_look L n c N = some r ∧ LkOut L n N n 0 r := by
  obtain ⟨f, rfl⟩ : ∃ j, N = j + 1 := ⟨N - 1, by omega⟩
  obtain ⟨m, rfl⟩ : ∃ m, n = m + 1 := ⟨n - 1, by omega⟩
  have hin : check_lookIn L (m + 1) c (f + 1) = some (.inl .h1m0) := by
    unfold check_lookIn
    exact ite_no (by omega) (ite_no (by omega) rfl)
  have hc : Clr L 0 := ⟨rfl, rfl, rfl, rfl⟩
  have ha : ∀ j, j < 0 → okB L (f + 1) j = true := fun j hj => absurd hj (Nat.not_lt_zero j)
  have hstep : ∀ x, check_look_h1m0 L (m + 1) c (f + 1) = x → check_lookStep L (m + 1) c (f + 1) .h1m0 = x := fun x h => h
  unfold check_look
  rw [goM_in hin]
  by_cases hok : okB L (f + 1) 0 = true
  · obtain ⟨o1, o2⟩ := ok_and hok
    have he : errI [] (L.getD 0 R_iiii.z) (f + 1) = 0 := by
      have : errI (opn L 0) (L.getD 0 R_iiii.z) (f + 1) = 0 := by unfold errI; rw [o1, o2]; rfl
      exact this
    by_cases h15 : (L.getD 0 R_iiii.z).a0 = 15
    · obtain ⟨e1, e2, e3, e4, e5⟩ := clr_begin hc h15
      obtain ⟨r, h1, h2⟩ := look_from1 (c := c) hn hL hN m (0 + 1) f (by omega) (by omega) (all_next ha hok)
      refine ⟨r, (iter_next ?_).trans h1, ?_⟩
      · refine hstep _ ?_
        unfold check_look_h1m0
        rw [e1, e2, e3, e4, e5]
        refine ite_yes (by omega) (ite_yes (by omega) (bind_to (refuse1 _ (by omega)) (ite_no (by rw [he]; decide) (bind_to (bind_to rfl (ite_yes h15 rfl)) rfl))))
      · unfold LkOut at h2 ⊢; rw [lookF_go hok]; exact h2
    · obtain ⟨c1, e2, e3, h16, h17⟩ := clr_next hc h15 hok
      obtain ⟨r, h1, h2⟩ := look_from2 (c := c) hn hL hN m (0 + 1) f (by omega) (by omega) (all_next ha hok) c1
      refine ⟨r, (iter_next ?_).trans h1, ?_⟩
      · refine hstep _ ?_
        unfold check_look_h1m0
        rw [e2, e3]
        refine ite_yes (by omega) (ite_yes (by omega) (bind_to (refuse1 _ (by omega)) (ite_no (by rw [he]; decide) (bind_to (bind_to rfl (ite_no h15 (ite_no h16 (ite_no h17 rfl)))) rfl))))
      · unfold LkOut at h2 ⊢; rw [lookF_go hok]; exact h2
  · have he := err_ne hok
    refine ⟨.r0 (errI (opn L 0) (L.getD 0 R_iiii.z) (f + 1)), iter_done (hstep _ ?_), out_bad hok rfl rfl⟩
    unfold check_look_h1m0
    exact ite_yes (by omega) (ite_yes (by omega) (bind_to (refuse1 _ (by omega)) (ite_yes he rfl)))
theorem look_0 {L : List R_iiii} {c N : Nat} : check_look L 0 c N = some (.r0 120) := goM_out rfl
end
end Ev
end Go.Proofs.Ytpgbennpiihajaa
