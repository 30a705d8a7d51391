/- The document's answer, plain: the same. -/
import Derived.Test.YtpgbennpiihajaaKsg
namespace Go.Proofs.Ytpgbennpiihajaa
open Go.RowKit
namespace Ev
set_option linter.unusedVariables false
set_option linter.unusedSimpArgs false

section
variable {L : List R_iiii} {n c N : Nat}
theorem rjump (hn : n ≤ L.length) (hL : n ≤ 512) (hN : 520 ≤ N) (hj : JF L n) : ∀ d k f, k + d = n → d < f →
    iter (ref12_WrongStep L n c N) f (.h2m0 k) = some (.r0 (aimOut L n d k).1) := by
  intro d
  induction d with
  | zero =>
    intro k f hk hf
    obtain ⟨f, rfl⟩ : ∃ j, f = j + 1 := ⟨f - 1, by omega⟩
    refine iter_done ?_
    show ref12_Wrong_h2m0 L n c N k = _
    unfold ref12_Wrong_h2m0
    exact ite_no (by omega) rfl
  | succ d ih =>
    intro k f hk hf
    obtain ⟨f, rfl⟩ : ∃ j, f = j + 1 := ⟨f - 1, by omega⟩
    obtain ⟨j1, j2⟩ := hj k (by omega)
    have bk : ref12_branch L n c (k : Int) N = some (.r0 (brP (opn L k)).a0 (brP (opn L k)).a1) := branch_is k (by omega) hn (by omega) (.inl rfl) hL hN
    have bt : ¬ (n : Int) < tgt (L.getD k R_iiii.z) → ref12_branch L n c (tgt (L.getD k R_iiii.z)) N = some (.r0 (brP (opn L (tgt (L.getD k R_iiii.z)).toNat)).a0 (brP (opn L (tgt (L.getD k R_iiii.z)).toNat)).a1) := fun h => branch_is _ (by omega) hn (by omega) (.inl (by omega)) hL hN
    by_cases hb : badJ L n k = true
    · rw [aimOut_bad hb]
      refine iter_done ?_
      rw [badJ_is, Bool.and_eq_true] at hb
      show ref12_Wrong_h2m0 L n c N k = _
      unfold ref12_Wrong_h2m0
      refine ite_yes (by omega) (ite_yes (by omega) (bind_to (rtarget_is _ _) (ite_yes hb.1 (ite_eq (fun _ => rfl) (fun h => bind_to (bt h) (bind_to bk (ite_yes ?_ rfl)))))))
      have := hb.2
      unfold jb at this
      rw [decide_eq_false h, Bool.false_or, Bool.not_eq_true', decide_eq_false_iff_not] at this
      exact this
    · rw [aimOut_go hb]
      refine (iter_next (y := .h2m0 (k + 1)) ?_).trans (ih (k + 1) f (by omega) (by omega))
      rw [badJ_is, Bool.and_eq_true] at hb
      show ref12_Wrong_h2m0 L n c N k = _
      unfold ref12_Wrong_h2m0
      refine ite_yes (by omega) (ite_yes (by omega) (bind_to (rtarget_is _ _) (ite_eq (fun h1 => ?_) (fun h1 => ite_yes (by omega) rfl))))
      have hb : ¬ jb L n k (tgt (L.getD k R_iiii.z)) = true := fun e => hb ⟨h1, e⟩
      unfold jb at hb
      simp only [Bool.or_eq_true, decide_eq_true_eq, Bool.not_eq_true', decide_eq_false_iff_not, not_or, Decidable.not_not] at hb
      exact ite_no hb.1 (bind_to (bt hb.1) (bind_to bk (ite_no (fun h => h hb.2) (ite_yes (by omega) rfl))))
theorem rfrom1 (hn : n ≤ L.length) (hL : n ≤ 512) (hN : 520 ≤ N) : ∀ d k f, k + d = n → d + n + 2 ≤ f → (∀ j, j < k → okB L N j = true) →
    iter (ref12_WrongStep L n c N) f (.h1m1 (opn L k) k) = some (.r0 (lookF L n N d k).1) := by
  intro d
  induction d with
  | zero =>
    intro k f hk hf ha
    obtain ⟨f, rfl⟩ : ∃ j, f = j + 1 := ⟨f - 1, by omega⟩
    obtain rfl : k = n := by omega
    rw [lookF_end]
    have hstep : ∀ x, ref12_Wrong_h1m1 L k c N (opn L k) k = x → ref12_WrongStep L k c N (.h1m1 (opn L k) k) = x := fun x h => h
    by_cases h0 : (opn L k).length = 0
    · rw [if_pos h0]
      refine (iter_next (y := .h2m0 0) (hstep _ ?_)).trans (rjump hn hL hN (jf_of (by omega) ha) k 0 f (by omega) (by omega))
      unfold ref12_Wrong_h1m1
      exact ite_no (by omega) (ite_no (by omega) rfl)
    · rw [if_neg h0]
      refine iter_done (hstep _ ?_)
      unfold ref12_Wrong_h1m1
      exact ite_no (by omega) (ite_yes (by omega) rfl)
  | succ d ih =>
    intro k f hk hf ha
    obtain ⟨f, rfl⟩ : ∃ j, f = j + 1 := ⟨f - 1, by omega⟩
    have hstep : ∀ x, ref12_Wrong_h1m1 L n c N (opn L k) k = x → ref12_WrongStep L n c N (.h1m1 (opn L k) k) = x := fun x h => h
    obtain ⟨r, s1, s2, s3⟩ := step2 (opn L k) (L.getD k R_iiii.z).a0 (L.getD k R_iiii.z).a1 (L.getD k R_iiii.z).a2 (L.getD k R_iiii.z).a3 k N (opn_len L k)
    obtain ⟨-, f2, -⟩ := fine_is (L.getD k R_iiii.z) (show 4 ≤ N by omega)
    by_cases hok : okB L N k = true
    · obtain ⟨o1, o2⟩ := ok_and hok
      rw [lookF_go hok]
      refine (iter_next (y := .h1m1 (opn L (k + 1)) (k + 1)) (hstep _ ?_)).trans (ih (k + 1) f (by omega) (by omega) (all_next ha hok))
      have hs : opn L (k + 1) = outL (opn L k) r := s2.symm
      rw [hs]
      unfold ref12_Wrong_h1m1
      refine ite_yes (by omega) (ite_yes (by omega) (bind_to s1 ?_))
      rw [o1] at f2
      rw [o2] at s3
      cases r with
      | r0 b => exact bind_to f2 (ite_no (by decide) (ite_no (fun h => h s3) (ite_yes (by omega) rfl)))
      | r1 l => exact bind_to f2 (ite_no (by decide) (ite_yes (by omega) rfl))
      | r2 => exact bind_to f2 (ite_no (by decide) (ite_yes (by omega) rfl))
    · rw [lookF_bad hok]
      refine iter_done (hstep _ ?_)
      unfold ref12_Wrong_h1m1
      refine ite_yes (by omega) (ite_yes (by omega) (bind_to s1 ?_))
      unfold okB at hok
      rw [Bool.and_eq_true] at hok
      cases r with
      | r0 b => exact bind_to f2 (ite_eq (fun _ => rfl) (fun h => ite_yes (fun e => hok ⟨Decidable.not_not.1 h, s3.symm.trans e⟩) rfl))
      | r1 l => exact bind_to f2 (ite_yes (fun h => hok ⟨h, s3.symm⟩) rfl)
      | r2 => exact bind_to f2 (ite_yes (fun h => hok ⟨h, s3.symm⟩) rfl)
theorem rfrom0 (hn : n ≤ L.length) (hL : n ≤ 512) (hN : 520 ≤ N) : ∀ d k f, k + d = n → d + n + 2 ≤ f → (∀ j, j < k → okB L N j = true) → opn L k = [] →
    iter (ref12_WrongStep L n c N) f (.h1m0 k) = some (.r0 (lookF L n N d k).1) := by
  intro d
  induction d with
  | zero =>
    intro k f hk hf ha h0
    obtain ⟨f, rfl⟩ : ∃ j, f = j + 1 := ⟨f - 1, by omega⟩
    obtain rfl : k = n := by omega
    have hstep : ∀ x, ref12_Wrong_h1m0 L k c N k = x → ref12_WrongStep L k c N (.h1m0 k) = x := fun x h => h
    rw [lookF_end, if_pos (by rw [h0]; rfl)]
    refine (iter_next (y := .h2m0 0) (hstep _ ?_)).trans (rjump hn hL hN (jf_of (by omega) ha) k 0 f (by omega) (by omega))
    unfold ref12_Wrong_h1m0
    exact ite_no (by omega) rfl
  | succ d ih =>
    intro k f hk hf ha h0
    obtain ⟨f, rfl⟩ : ∃ j, f = j + 1 := ⟨f - 1, by omega⟩
    have hstep : ∀ x, ref12_Wrong_h1m0 L n c N k = x → ref12_WrongStep L n c N (.h1m0 k) = x := fun x h => h
    obtain ⟨-, f2, -⟩ := fine_is (L.getD k R_iiii.z) (show 4 ≤ N by omega)
    have s1 := step0 (L.getD k R_iiii.z).a0 (L.getD k R_iiii.z).a1 (L.getD k R_iiii.z).a2 (L.getD k R_iiii.z).a3 k N
    by_cases h15 : (L.getD k R_iiii.z).a0 = 15
    · rw [if_pos h15] at s1
      have hB : stepB (opn L k) (L.getD k R_iiii.z).a0 = true := by rw [h0, h15]; rfl
      by_cases hf1 : fineB (L.getD k R_iiii.z) N = true
      · have hok : okB L N k = true := by unfold okB; rw [hf1, hB]; rfl
        rw [lookF_go hok]
        have hs : opn L (k + 1) = [⟨(k : Int), 0⟩] := by rw [opn, h0, h15]; rfl
        refine (iter_next (y := .h1m1 (opn L (k + 1)) (k + 1)) (hstep _ ?_)).trans (rfrom1 hn hL hN d (k + 1) f (by omega) (by omega) (all_next ha hok))
        rw [hs]
        unfold ref12_Wrong_h1m0
        rw [hf1] at f2
        exact ite_yes (by omega) (ite_yes (by omega) (bind_to s1 (bind_to f2 (ite_no (by decide) (ite_yes (by omega) rfl)))))
      · have hok : ¬ okB L N k = true := by unfold okB; rw [Bool.and_eq_true]; exact fun h => hf1 h.1
        rw [lookF_bad hok]
        refine iter_done (hstep _ ?_)
        unfold ref12_Wrong_h1m0
        exact ite_yes (by omega) (ite_yes (by omega) (bind_to s1 (bind_to f2 (ite_yes hf1 rfl))))
    · rw [if_neg h15] at s1
      by_cases hok : okB L N k = true
      · obtain ⟨o1, o2⟩ := ok_and hok
        rw [lookF_go hok]
        have hs : opn L (k + 1) = [] := by
          rw [opn, h0]
          unfold stepL
          rw [if_neg h15]
          by_cases h16 : (L.getD k R_iiii.z).a0 = 16
          · rw [if_pos h16]; rfl
          · rw [if_neg h16]; by_cases h17 : (L.getD k R_iiii.z).a0 = 17
            · rw [if_pos h17]; rfl
            · rw [if_neg h17]
        refine (iter_next (y := .h1m0 (k + 1)) (hstep _ ?_)).trans (ih (k + 1) f (by omega) (by omega) (all_next ha hok) hs)
        unfold ref12_Wrong_h1m0
        rw [o1] at f2
        rw [h0] at o2
        exact ite_yes (by omega) (ite_yes (by omega) (bind_to s1 (bind_to f2 (ite_no (by decide) (ite_no (fun h => h o2) (ite_yes (by omega) rfl))))))
      · rw [lookF_bad hok]
        refine iter_done (hstep _ ?_)
        unfold ref12_Wrong_h1m0
        unfold okB at hok
        rw [Bool.and_eq_true, h0] at hok
        exact ite_yes (by omega) (ite_yes (by omega) (bind_to s1 (bind_to f2 (ite_eq (fun _ => rfl) (fun h => ite_yes (fun e => hok ⟨Decidable.not_not.1 h, e⟩) rfl)))))
theorem fb_some {L : List R_iiii} {N : Nat} : ∀ d k {j}, fb L N d k = some j → j < k + d ∧ ¬ okB L N j = true
  | 0, k, j, h => by cases h
  | d + 1, k, j, h => by
    unfold fb at h
    by_cases hk : okB L N k = true
    · rw [if_pos hk] at h; have := fb_some d (k + 1) h; exact ⟨by omega, this.2⟩
    · rw [if_neg hk] at h; cases h; exact ⟨by omega, hk⟩
theorem fb_none {L : List R_iiii} {N : Nat} : ∀ d k, fb L N d k = none → ∀ j, k ≤ j → j < k + d → okB L N j = true
  | 0, k, h, j, h1, h2 => by omega
  | d + 1, k, h, j, h1, h2 => by
    unfold fb at h
    by_cases hk : okB L N k = true
    · rw [if_pos hk] at h
      by_cases e : j = k
      · rw [e]; exact hk
      · exact fb_none d (k + 1) h j (by omega) (by omega)
    · rw [if_neg hk] at h; cases h
theorem fj_some {L : List R_iiii} {n : Nat} : ∀ d k {j}, fj L n d k = some j → j < k + d ∧ badJ L n j = true
  | 0, k, j, h => by cases h
  | d + 1, k, j, h => by
    unfold fj at h
    by_cases hk : badJ L n k = true
    · rw [if_pos hk] at h; cases h; exact ⟨by omega, hk⟩
    · rw [if_neg hk] at h; have := fj_some d (k + 1) h; exact ⟨by omega, this.2⟩
/-- Where something is wrong, of a whole program. -/
def wrongP (L : List R_iiii) (n N : Nat) : Int := if n = 0 then 0 else (lookF L n N n 0).1
def checkP (L : List R_iiii) (n N : Nat) : Int := if n = 0 then 120 else (lookF L n N n 0).2
theorem rwrong_is (hn : n ≤ L.length) (hL : n ≤ 512) (hN : 2000 ≤ N) : ref12_Wrong L n c N = some (.r0 (wrongP L n N)) := by
  unfold wrongP ref12_Wrong
  by_cases h : n = 0
  · rw [if_pos h]
    refine goM_out ?_
    unfold ref12_WrongIn
    exact ite_yes (by omega) rfl
  · rw [if_neg h]
    have hin : ref12_WrongIn L n c N = some (.inl (.h1m0 0)) := by
      unfold ref12_WrongIn
      exact ite_no (by omega) (ite_no (by omega) rfl)
    rw [goM_in hin]
    exact rfrom0 hn hL (by omega) n 0 N (by omega) (by omega) (fun j hj => absurd hj (Nat.not_lt_zero j)) rfl
theorem rcheck_is (hn : n ≤ L.length) (hL : n ≤ 512) (hN : 2000 ≤ N) : ref12_Check L n c N = some (.r0 (checkP L n N)) := by
  unfold ref12_Check
  refine bind_to (rwrong_is hn hL hN) ?_
  show (if wrongP L n N < 0 then _ else _) = _
  unfold wrongP checkP
  by_cases h : n = 0
  · rw [if_pos h, if_pos h]
    exact ite_no (by decide) (ite_no (by omega) rfl)
  · rw [if_neg h, if_neg h]
    unfold lookF
    cases hfb : fb L N n 0 with
    | some j =>
      obtain ⟨j1, j2⟩ := fb_some n 0 hfb
      dsimp only
      refine ite_no (by omega) (ite_yes (by omega) (ite_yes (by omega) (ite_yes (by omega) ?_)))
      rw [Int.toNat_natCast]
      obtain ⟨-, -, -, -, f15⟩ := fine_is (L.getD j R_iiii.z) (show 4 ≤ N by omega)
      show _ = some (ref12_CheckR.r0 (errI (opn L j) (L.getD j R_iiii.z) N))
      unfold errI
      unfold okB at j2
      rw [if_neg j2]
      by_cases e : (L.getD j R_iiii.z).a0 = 15
      · have := f15 e
        by_cases e2 : fineB (L.getD j R_iiii.z) N = true
        · rw [if_pos ⟨e, this.1 e2⟩, if_pos ⟨e, e2⟩]
        · rw [if_neg (fun h => e2 (this.2 h.2)), if_neg (fun h => e2 h.2)]
      · rw [if_neg (fun h => e h.1), if_neg (fun h => e h.1)]
    | none =>
      dsimp only
      by_cases h0 : (opn L n).length = 0
      · simp only [if_pos h0]
        cases hfj : fj L n n 0 with
        | none => rfl
        | some j =>
          dsimp only
          obtain ⟨j1, j2⟩ := fj_some n 0 hfj
          refine ite_no (by omega) (ite_yes (by omega) (ite_yes (by omega) (ite_yes (by omega) ?_)))
          rw [Int.toNat_natCast]
          rw [badJ_is, Bool.and_eq_true] at j2
          have := of_decide_eq_true j2.1
          exact ite_no (by omega) rfl
      · simp only [if_neg h0]
        exact ite_no (by omega) (ite_no (by omega) rfl)
/-- What a look finds, of any program of not more than 512 instructions. -/
theorem look_all (hn : n ≤ L.length) (hL : n ≤ 512) (hN : 520 ≤ N) : ∃ r, check_look L n c N = some r ∧ rW r = wrongP L n N ∧ rE r = checkP L n N ∧ (checkP L n N = 0 → rB r = brs L n ++ [⟨-1, 0⟩] ∧ rM r = mtL L n ∧ rD r = blL L n ∧ rd r = dpL L n) := by
  by_cases h : n = 0
  · subst h
    refine ⟨_, look_0, rfl, rfl, fun e => ?_⟩
    unfold checkP at e; rw [if_pos rfl] at e; cases e
  · obtain ⟨r, h1, h2, h3, h4⟩ := look_is (c := c) (show 1 ≤ n by omega) hn hL hN
    refine ⟨r, h1, ?_⟩
    unfold wrongP checkP
    rw [if_neg h, if_neg h]
    exact ⟨h2, h3, h4⟩
/-- What is known of a program that may be. -/
theorem fit_is (h : checkP L n N = 0) : 1 ≤ n ∧ (∀ j, j < n → okB L N j = true) ∧ opn L n = [] ∧ fj L n n 0 = none := by
  unfold checkP at h
  by_cases h0 : n = 0
  · rw [if_pos h0] at h; cases h
  · rw [if_neg h0] at h
    unfold lookF at h
    cases hfb : fb L N n 0 with
    | some j =>
      rw [hfb] at h
      obtain ⟨j1, j2⟩ := fb_some n 0 hfb
      exact absurd h (err_ne j2)
    | none =>
      rw [hfb] at h
      by_cases e : (opn L n).length = 0
      · have h : (if (opn L n).length = 0 then (match fj L n n 0 with
          | some j => ((j : Int), (120 : Int))
          | none => (-1, 0)) else ((n : Int), 120)).2 = 0 := h
        rw [if_pos e] at h
        cases hfj : fj L n n 0 with
        | some j => rw [hfj] at h; cases h
        | none => exact ⟨by omega, fun j hj => fb_none n 0 hfb j (by omega) (by omega), List.length_eq_zero_iff.1 e, rfl⟩
      · have h : (if (opn L n).length = 0 then (match fj L n n 0 with
          | some j => ((j : Int), (120 : Int))
          | none => (-1, 0)) else ((n : Int), 120)).2 = 0 := h
        rw [if_neg e] at h; cases h
theorem check_P (hn : n ≤ L.length) (hL : n ≤ 512) (hN : 520 ≤ N) : check_Check L n c N = some (.r0 (checkP L n N)) := by
  obtain ⟨r, h1, h2, h3, h4⟩ := look_all (c := c) hn hL hN
  rw [← h3]
  refine bind_to h1 ?_
  cases r <;> rfl
end
end Ev
end Go.Proofs.Ytpgbennpiihajaa
