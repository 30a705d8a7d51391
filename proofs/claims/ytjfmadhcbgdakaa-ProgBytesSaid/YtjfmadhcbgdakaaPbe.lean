/- Programs' bytes: plain. -/
import Derived.Test.YtjfmadhcbgdakaaPbd
namespace Go.Proofs.Ytjfmadhcbgdakaa
open Go.RowKit
namespace Ev
set_option linter.unusedVariables false
set_option linter.unusedSimpArgs false
def sS (M : List Int) : Int := M.foldl (fun a x => a + x) 0
def Zdt (M : List Int) : Int := sS M % 256
theorem Zqv (M : List Int) (x : Int) : sS (M ++ [x]) = sS M + x := by unfold sS; rw [List.foldl_append]; rfl
theorem ZqI (M : List Int) (x : Int) : Zdt (M ++ [x]) = (Zdt M + x) % 256 := by unfold Zdt; rw [Zqv]; omega
theorem Zvm (M : List Int) : ∀ a : Int, M.foldl (fun a x => a + x) a = a + M.foldl (fun a x => a + x) 0 := by
 induction M with
 | nil => intro a; simp
 | cons x M ih => intro a; rw [List.foldl_cons, List.foldl_cons, ih, ih (0 + x)]; omega
theorem ZrI {M : List Int} (hb : ∀ x ∈ M, 0 ≤ x ∧ x ≤ 255) : 0 ≤ sS M ∧ sS M ≤ 255 * (M.length : Int) := by
 induction M with
 | nil => exact ⟨by decide, by decide⟩
 | cons x M ih =>
  obtain ⟨h1, h2⟩ := ih fun y hy => hb y (List.mem_cons_of_mem _ hy)
  obtain ⟨h3, h4⟩ := hb x (List.mem_cons_self ..)
  have e : sS (x :: M) = x + sS M := by
   show (x :: M).foldl (fun a x => a + x) 0 = _
   rw [List.foldl_cons, Zvm, Int.zero_add]; rfl
  rw [e, List.length_cons]; omega
theorem Zoz {L : List Int} {N : Nat} (hL : L.length ≤ 40000) (hN : 50000 ≤ N) : ZiL L N = some (.r0 (Zdt L)) := by
 refine (ZaC (show Ziy L N = some (.inl (.h1m0 0 0)) from rfl)).trans ?_
 have loop : ∀ d j v f, j + d = L.length → d < f → v = Zdt (L.take j) → ZaP (ZfI L N) f (.h1m0 j v) = some (.r0 (Zdt L)) := by
  intro d
  induction d with
  | zero =>
   intro j v f hj hf hv
   obtain ⟨f, rfl⟩ : ∃ g, f = g + 1 := ⟨f - 1, by omega⟩
   refine ZO ?_
   show ZdK L N j v = _
   unfold ZdK
   refine Zw (by omega) ?_
   rw [hv, List.take_of_length_le (by omega)]
  | succ d ih =>
   intro j v f hj hf hv
   obtain ⟨f, rfl⟩ : ∃ g, f = g + 1 := ⟨f - 1, by omega⟩
   refine (Zy (y := .h1m0 (j + 1) (Zdt (L.take (j + 1)))) ?_).trans (ih (j + 1) _ f (by omega) (by omega) rfl)
   show ZdK L N j v = _
   unfold ZdK
   rw [← Zc5 (by omega) 0, ZqI, hv, Za3]
   exact Zd (by omega) (Zd (by omega) rfl)
 exact loop L.length 0 0 N (by omega) (by omega) rfl
theorem ZlY {L : List Int} {n c : Nat} {N : Nat} (hn : n ≤ L.length) (hL : n ≤ 40000) (hN : 50000 ≤ N) : Ziz L n c N = some (.r0 (Zdt (L.take n))) := by
 refine (ZaC (show ZgJ L n c N = some (.inl (.h1m0 0 0)) from rfl)).trans ?_
 have loop : ∀ d j v f, j + d = n → d < f → v = Zdt (L.take j) → ZaP (ZeO L n c N) f (.h1m0 j v) = some (.r0 (Zdt (L.take n))) := by
  intro d
  induction d with
  | zero =>
   intro j v f hj hf hv
   obtain ⟨f, rfl⟩ : ∃ g, f = g + 1 := ⟨f - 1, by omega⟩
   refine ZO ?_
   show Zda L n c N j v = _
   unfold Zda
   refine Zw (by omega) ?_
   rw [hv, show j = n by omega]
  | succ d ih =>
   intro j v f hj hf hv
   obtain ⟨f, rfl⟩ : ∃ g, f = g + 1 := ⟨f - 1, by omega⟩
   refine (Zy (y := .h1m0 (j + 1) (Zdt (L.take (j + 1)))) ?_).trans (ih (j + 1) _ f (by omega) (by omega) rfl)
   show Zda L n c N j v = _
   unfold Zda
   rw [← Zc5 (by omega) 0, ZqI, hv, Za3]
   exact Zd (by omega) (Zd (by omega) (Zd (by omega) rfl))
 exact loop n 0 0 N (by omega) (by omega) rfl
def ZbE (N : Nat) : List R_iiii → Option (List Int)
 | [] => some []
 | i :: l => match Zfa i N, ZbE N l with
  | some y, some Y => some (y ++ Y)
  | _, _ => none
theorem Zdr {N : Nat} {i : R_iiii} {l : List R_iiii} {Y : List Int} (h : ZbE N (i :: l) = some Y) : ∃ y Z, Zfa i N = some y ∧ ZbE N l = some Z ∧ Y = y ++ Z := by
 rw [ZbE] at h
 split at h
 ·rename_i y Z h1 h2
  exact ⟨y, Z, h1, h2, (Option.some.inj h).symm⟩
 ·cases h
theorem ZeF {N : Nat} {i : R_iiii} {l : List R_iiii} {y Z : List Int} (h1 : Zfa i N = some y) (h2 : ZbE N l = some Z) : ZbE N (i :: l) = some (y ++ Z) := by rw [ZbE, h1, h2]
theorem Zlz {N : Nat} {i : R_iiii} {l : List R_iiii} (h1 : Zfa i N = none) : ZbE N (i :: l) = none := by rw [ZbE, h1]
theorem Zl0 {N : Nat} {i : R_iiii} {l : List R_iiii} (h2 : ZbE N l = none) : ZbE N (i :: l) = none := by
 rw [ZbE, h2]; cases Zfa i N <;> rfl
theorem ZoZ {N : Nat} (hN : 2000 ≤ N) : ∀ {l : List R_iiii} {Y : List Int}, ZbE N l = some Y → Y.length ≤ 10 * l.length ∧ ∀ x ∈ Y, 0 ≤ x ∧ x ≤ 255
 | [], Y, h => by
  obtain rfl := Option.some.inj h
  exact ⟨by decide, fun x hx => by cases hx⟩
 | i :: l, Y, h => by
  obtain ⟨y, Z, h1, h2, rfl⟩ := Zdr h
  obtain ⟨a1, a2, a3⟩ := Zlx hN h1
  obtain ⟨b1, b2⟩ := ZoZ hN h2
  refine ⟨by rw [List.length_append, List.length_cons]; omega, fun x hx => ?_⟩
  rcases List.mem_append.1 hx with hx | hx
  ·exact a3 x hx
  ·exact b2 x hx
theorem Zh0 {L : List R_iiii} {j d : Nat} (h : j < L.length) : (L.drop j).take (d + 1) = L.getD j R_iiii.z :: (L.drop (j + 1)).take d := by
 rw [List.drop_eq_getElem_cons h, List.take_succ_cons]
 congr 1
 simp [List.getD, h]
def hdr (n : Nat) : List Int := [71, 78, 84, 1, (n : Int) / 256, (n : Int) % 256]
theorem Zpa {n : Nat} (h : n ≤ 65535) : ∀ x ∈ hdr n, 0 ≤ x ∧ x ≤ 255 := by
 intro x hx
 unfold hdr at hx
 simp only [List.mem_cons, List.not_mem_nil, or_false] at hx
 rcases hx with rfl | rfl | rfl | rfl | rfl | rfl <;> omega
def Zbs (n : Nat) (Y : List Int) : List Int := hdr n ++ Y ++ [Zdt (hdr n ++ Y)]
section
variable {L : List R_iiii} {n c N : Nat}
theorem Zqw (hn : n ≤ L.length) (hN : 50000 ≤ N) : (512 < n ∧ Zc9 L n c N = some (.r0 3)) ∨ (n ≤ 512 ∧ ((ZbE N (L.take n) = none ∧ Zc9 L n c N = some (.r0 110)) ∨ ∃ Y, ZbE N (L.take n) = some Y ∧ Zc9 L n c N = some (.r1 (Zbs n Y)))) := by
 by_cases h5 : 512 < n
 ·exact .inl ⟨h5, ZdH (Zd (by omega) rfl)⟩
 refine .inr ⟨by omega, ?_⟩
 have hI : Zc9 L n c N = ZaP (Zc2 L n c N) N (.h1m0 (hdr n) 0) := ZaC (show Zgp L n c N = some (.inl (.h1m0 (hdr n) 0)) from Zw (by omega) (by rw [Za3]; rfl))
 rw [hI]
 have loop : ∀ d j b f, j + d = n → d < f → b.length + 10 * d ≤ 20000 → (ZbE N ((L.drop j).take d) = none ∧ ZaP (Zc2 L n c N) f (.h1m0 b j) = some (.r0 110)) ∨ ∃ Y, ZbE N ((L.drop j).take d) = some Y ∧ ZaP (Zc2 L n c N) f (.h1m0 b j) = some (.r1 (b ++ Y ++ [Zdt (b ++ Y)])) := by
  intro d
  induction d with
  | zero =>
   intro j b f hj hf hb
   obtain ⟨f, rfl⟩ : ∃ g, f = g + 1 := ⟨f - 1, by omega⟩
   refine .inr ⟨[], rfl, ZO ?_⟩
   show ZbK L n c N b j = _
   unfold ZbK
   rw [List.append_nil]
   exact Zw (by omega) <| Zp (Zoz (by omega) hN) <| Zd (by omega) rfl
  | succ d ih =>
   intro j b f hj hf hb
   obtain ⟨f, rfl⟩ : ∃ g, f = g + 1 := ⟨f - 1, by omega⟩
   rw [Zh0 (by omega)]
   rcases Zgz (L.getD j R_iiii.z) (show 2000 ≤ N by omega) with ⟨e, e1, _⟩ | ⟨_, _, _, _, _, _, _, w0, w1, w2, _, _, e, e1, _⟩
   ·refine .inl ⟨Zlz e, ZO ?_⟩
    show ZbK L n c N b j = _
    unfold ZbK
    exact Zd (by omega) <| Zd (by omega) <| Zp e1 <| Zd (by decide) rfl
   ·obtain ⟨a1, a2, _⟩ := Zlx (by omega) e
    have S : Zc2 L n c N (.h1m0 b j) = some (.inl (.h1m0 (b ++ Zft (L.getD j R_iiii.z).a0 (L.getD j R_iiii.z).a1 (L.getD j R_iiii.z).a2 (L.getD j R_iiii.z).a3 w0 w1 w2) (j + 1))) := by
     show ZbK L n c N b j = _
     unfold ZbK
     exact Zd (by omega) <| Zd (by omega) <| Zp e1 <| Zw (by omega) <| Zd (by omega) <| Zd (by omega) <| Zd (by omega) rfl
    rcases ih (j + 1) (b ++ Zft (L.getD j R_iiii.z).a0 (L.getD j R_iiii.z).a1 (L.getD j R_iiii.z).a2 (L.getD j R_iiii.z).a3 w0 w1 w2) f (by omega) (by omega) (by rw [List.length_append]; omega) with ⟨g1, g2⟩ | ⟨Y, g1, g2⟩
    ·exact .inl ⟨Zl0 g1, (Zy S).trans g2⟩
    ·refine .inr ⟨_, ZeF e g1, (Zy S).trans ?_⟩
     rw [g2]; simp only [List.append_assoc]
 have := loop n 0 (hdr n) N (by omega) (by omega) (by show 6 + 10 * n ≤ _; omega)
 rw [List.drop_zero] at this
 exact this
theorem Zog {b : List Int} {f : Nat} (hb : ∀ x ∈ b, 0 ≤ x ∧ x ≤ 255) (hl : b.length ≤ 20000) (hf : b.length < f) : ZaP (Zbn L n c N) f (.h2m0 b 0 0) = some (.r1 (b ++ [Zdt b])) := by
 have loop : ∀ d j v f, j + d = b.length → d < f → v = sS (b.take j) → ZaP (Zbn L n c N) f (.h2m0 b v j) = some (.r1 (b ++ [Zdt b])) := by
  intro d
  induction d with
  | zero =>
   intro j v f hj hf hv
   obtain ⟨f, rfl⟩ : ∃ g, f = g + 1 := ⟨f - 1, by omega⟩
   refine ZO ?_
   show Zcv L n c N b v j = _
   unfold Zcv
   refine Zw (by omega) <| Zd (by omega) ?_
   rw [List.take_of_length_le (by omega)] at hv
   obtain ⟨h1, h2⟩ := ZrI hb
   rw [Za3, hv, Int.tmod_eq_emod_of_nonneg h1, show sS b % 256 % 256 = Zdt b by unfold Zdt; omega]
  | succ d ih =>
   intro j v f hj hf hv
   obtain ⟨f, rfl⟩ : ∃ g, f = g + 1 := ⟨f - 1, by omega⟩
   obtain ⟨h1, h2⟩ := ZrI (M := b.take (j + 1)) fun x hx => hb x (List.mem_of_mem_take hx)
   obtain ⟨h3, h4⟩ := Zfu hb j (by omega)
   have e : sS (b.take (j + 1)) = v + b.getD j 0 := by rw [← Zc5 (by omega) 0, Zqv, hv]
   rw [List.length_take] at h2
   refine (Zy (y := .h2m0 b (sS (b.take (j + 1))) (j + 1)) ?_).trans (ih (j + 1) _ f (by omega) (by omega) rfl)
   show Zcv L n c N b v j = _
   unfold Zcv
   rw [e] at h1 h2 ⊢
   rw [w64 (by omega) (by omega)]
   exact Zd (by omega) <| Zd (by omega) <| Zd (by omega) <| Zd (by omega) rfl
 exact loop b.length 0 0 f (by omega) (by omega) rfl
theorem ZpR (hn : n ≤ L.length) (hN : 50000 ≤ N) : (512 < n ∧ ZbB L n c N = some (.r0 3)) ∨ (n ≤ 512 ∧ ((ZbE N (L.take n) = none ∧ ZbB L n c N = some (.r0 110)) ∨ ∃ Y, ZbE N (L.take n) = some Y ∧ ZbB L n c N = some (.r1 (Zbs n Y)))) := by
 by_cases h5 : 512 < n
 ·exact .inl ⟨h5, ZdH (Zd (by omega) rfl)⟩
 refine .inr ⟨by omega, ?_⟩
 have hI : ZbB L n c N = ZaP (Zbn L n c N) N (.h1m0 (hdr n) 0) := ZaC (show ZfR L n c N = some (.inl (.h1m0 (hdr n) 0)) from Zw (by omega) rfl)
 rw [hI]
 have loop : ∀ d j b f, j + d = n → d + b.length + 10 * d + 1 < f → b.length + 10 * d ≤ 20000 → (∀ x ∈ b, 0 ≤ x ∧ x ≤ 255) → (ZbE N ((L.drop j).take d) = none ∧ ZaP (Zbn L n c N) f (.h1m0 b j) = some (.r0 110)) ∨ ∃ Y, ZbE N ((L.drop j).take d) = some Y ∧ ZaP (Zbn L n c N) f (.h1m0 b j) = some (.r1 (b ++ Y ++ [Zdt (b ++ Y)])) := by
  intro d
  induction d with
  | zero =>
   intro j b f hj hf hb hbb
   obtain ⟨f, rfl⟩ : ∃ g, f = g + 1 := ⟨f - 1, by omega⟩
   refine .inr ⟨[], rfl, (Zy (y := .h2m0 b 0 0) ?_).trans ?_⟩
   ·show Zb9 L n c N b j = _
    unfold Zb9
    exact Zw (by omega) rfl
   ·rw [List.append_nil]; exact Zog hbb (by omega) (by omega)
  | succ d ih =>
   intro j b f hj hf hb hbb
   obtain ⟨f, rfl⟩ : ∃ g, f = g + 1 := ⟨f - 1, by omega⟩
   rw [Zh0 (by omega)]
   rcases Zgz (L.getD j R_iiii.z) (show 2000 ≤ N by omega) with ⟨e, _, e1⟩ | ⟨_, _, _, _, _, _, _, w0, w1, w2, _, _, e, _, e1⟩
   ·refine .inl ⟨Zlz e, ZO ?_⟩
    show Zb9 L n c N b j = _
    unfold Zb9
    exact Zd (by omega) <| Zd (by omega) <| Zp e1 rfl
   ·obtain ⟨a1, a2, a3⟩ := Zlx (by omega) e
    have S : Zbn L n c N (.h1m0 b j) = some (.inl (.h1m0 (b ++ Zft (L.getD j R_iiii.z).a0 (L.getD j R_iiii.z).a1 (L.getD j R_iiii.z).a2 (L.getD j R_iiii.z).a3 w0 w1 w2) (j + 1))) := by
     show Zb9 L n c N b j = _
     unfold Zb9
     exact Zd (by omega) <| Zd (by omega) <| Zp e1 <| Zw (by omega) <| Zd (by omega) <| Zd (by omega) <| Zd (by omega) rfl
    rcases ih (j + 1) (b ++ Zft (L.getD j R_iiii.z).a0 (L.getD j R_iiii.z).a1 (L.getD j R_iiii.z).a2 (L.getD j R_iiii.z).a3 w0 w1 w2) f (by omega) (by rw [List.length_append]; omega) (by rw [List.length_append]; omega) (fun x hx => by
     rcases List.mem_append.1 hx with hx | hx
     ·exact hbb x hx
     ·exact a3 x hx) with ⟨g1, g2⟩ | ⟨Y, g1, g2⟩
    ·exact .inl ⟨Zl0 g1, (Zy S).trans g2⟩
    ·refine .inr ⟨_, ZeF e g1, (Zy S).trans ?_⟩
     rw [g2]; simp only [List.append_assoc]
 have := loop n 0 (hdr n) N (by omega) (by show _ + 6 + _ + 1 < _; omega) (by show 6 + 10 * _ ≤ _; omega) (Zpa (by omega))
 rw [List.drop_zero] at this
 exact this
theorem Zmj {b : List Int} {f : Nat} (hb : ∀ x ∈ b, 0 ≤ x ∧ x ≤ 255) (hl : b.length ≤ 20000) (hf : b.length < f) : ZaP (ZaT L N) f (.h2m0 b 0 0) = some (.r1 (b ++ [Zdt b])) := by
 have loop : ∀ d j v f, j + d = b.length → d < f → v = sS (b.take j) → ZaP (ZaT L N) f (.h2m0 b v j) = some (.r1 (b ++ [Zdt b])) := by
  intro d
  induction d with
  | zero =>
   intro j v f hj hf hv
   obtain ⟨f, rfl⟩ : ∃ g, f = g + 1 := ⟨f - 1, by omega⟩
   refine ZO ?_
   show ZbZ L N b v j = _
   unfold ZbZ
   refine Zw (by omega) <| Zd (by omega) ?_
   rw [List.take_of_length_le (by omega)] at hv
   obtain ⟨h1, h2⟩ := ZrI hb
   rw [Za3, hv, Int.tmod_eq_emod_of_nonneg h1, show sS b % 256 % 256 = Zdt b by unfold Zdt; omega]
  | succ d ih =>
   intro j v f hj hf hv
   obtain ⟨f, rfl⟩ : ∃ g, f = g + 1 := ⟨f - 1, by omega⟩
   obtain ⟨h1, h2⟩ := ZrI (M := b.take (j + 1)) fun x hx => hb x (List.mem_of_mem_take hx)
   obtain ⟨h3, h4⟩ := Zfu hb j (by omega)
   have e : sS (b.take (j + 1)) = v + b.getD j 0 := by rw [← Zc5 (by omega) 0, Zqv, hv]
   rw [List.length_take] at h2
   refine (Zy (y := .h2m0 b (sS (b.take (j + 1))) (j + 1)) ?_).trans (ih (j + 1) _ f (by omega) (by omega) rfl)
   show ZbZ L N b v j = _
   unfold ZbZ
   rw [e] at h1 h2 ⊢
   rw [w64 (by omega) (by omega)]
   exact Zd (by omega) <| Zd (by omega) <| Zd (by omega) <| Zd (by omega) rfl
 exact loop b.length 0 0 f (by omega) (by omega) rfl
theorem Zoh (hN : 50000 ≤ N) : (512 < L.length ∧ Zbi L N = some (.r0 3)) ∨ (L.length ≤ 512 ∧ ((ZbE N L = none ∧ Zbi L N = some (.r0 110)) ∨ ∃ Y, ZbE N L = some Y ∧ Zbi L N = some (.r1 (Zbs L.length Y)))) := by
 by_cases h5 : 512 < L.length
 ·exact .inl ⟨h5, ZdH (Zd (by omega) rfl)⟩
 refine .inr ⟨by omega, ?_⟩
 have hI : Zbi L N = ZaP (ZaT L N) N (.h1m0 (hdr L.length) 0) := ZaC (show Zfi L N = some (.inl (.h1m0 (hdr L.length) 0)) from Zw (by omega) rfl)
 rw [hI]
 have loop : ∀ d j b f, j + d = L.length → d + b.length + 10 * d + 1 < f → b.length + 10 * d ≤ 20000 → (∀ x ∈ b, 0 ≤ x ∧ x ≤ 255) → (ZbE N ((L.drop j).take d) = none ∧ ZaP (ZaT L N) f (.h1m0 b j) = some (.r0 110)) ∨ ∃ Y, ZbE N ((L.drop j).take d) = some Y ∧ ZaP (ZaT L N) f (.h1m0 b j) = some (.r1 (b ++ Y ++ [Zdt (b ++ Y)])) := by
  intro d
  induction d with
  | zero =>
   intro j b f hj hf hb hbb
   obtain ⟨f, rfl⟩ : ∃ g, f = g + 1 := ⟨f - 1, by omega⟩
   refine .inr ⟨[], rfl, (Zy (y := .h2m0 b 0 0) ?_).trans ?_⟩
   ·show Zbr L N b j = _
    unfold Zbr
    exact Zw (by omega) rfl
   ·rw [List.append_nil]; exact Zmj hbb (by omega) (by omega)
  | succ d ih =>
   intro j b f hj hf hb hbb
   obtain ⟨f, rfl⟩ : ∃ g, f = g + 1 := ⟨f - 1, by omega⟩
   rw [Zh0 (by omega)]
   rcases Zgz (L.getD j R_iiii.z) (show 2000 ≤ N by omega) with ⟨e, _, e1⟩ | ⟨_, _, _, _, _, _, _, w0, w1, w2, _, _, e, _, e1⟩
   ·refine .inl ⟨Zlz e, ZO ?_⟩
    show Zbr L N b j = _
    unfold Zbr
    exact Zd (by omega) <| Zp e1 rfl
   ·obtain ⟨a1, a2, a3⟩ := Zlx (by omega) e
    have S : ZaT L N (.h1m0 b j) = some (.inl (.h1m0 (b ++ Zft (L.getD j R_iiii.z).a0 (L.getD j R_iiii.z).a1 (L.getD j R_iiii.z).a2 (L.getD j R_iiii.z).a3 w0 w1 w2) (j + 1))) := by
     show Zbr L N b j = _
     unfold Zbr
     exact Zd (by omega) <| Zp e1 <| Zw (by omega) <| Zd (by omega) <| Zd (by omega) <| Zd (by omega) rfl
    rcases ih (j + 1) (b ++ Zft (L.getD j R_iiii.z).a0 (L.getD j R_iiii.z).a1 (L.getD j R_iiii.z).a2 (L.getD j R_iiii.z).a3 w0 w1 w2) f (by omega) (by rw [List.length_append]; omega) (by rw [List.length_append]; omega) (fun x hx => by
     rcases List.mem_append.1 hx with hx | hx
     ·exact hbb x hx
     ·exact a3 x hx) with ⟨g1, g2⟩ | ⟨Y, g1, g2⟩
    ·exact .inl ⟨Zl0 g1, (Zy S).trans g2⟩
    ·refine .inr ⟨_, ZeF e g1, (Zy S).trans ?_⟩
     rw [g2]; simp only [List.append_assoc]
 have := loop L.length 0 (hdr L.length) N (by omega) (by show _ + 6 + _ + 1 < _; omega) (by show 6 + 10 * _ ≤ _; omega) (Zpa (by omega))
 rw [List.drop_zero, List.take_length] at this
 exact this
end
theorem Zjk {N : Nat} (hN : 50000 ≤ N) : Zfy N = some (.r0 (Zbs 0 [])) := by
 refine (ZaC (show Zf9 N = some (.inl .h1m0) from rfl)).trans (Zbv (n := 0 + 1) (by omega) (ZO ?_))
 show Zd8 N = _
 unfold Zd8
 exact Zp (Zoz (by decide) hN) rfl
theorem ZeI {N : Nat} (hN : 50000 ≤ N) : ZdY N = some (.r0 (Zbs 0 [])) := by
 refine (ZaC (show Zfh N = some (.inl .h1m0) from rfl)).trans ?_
 have st : ∀ (k : Nat) (v w : Int), k < 6 → IntKind.i64.wrap (v + (([(71 : Int), (78 : Int), (84 : Int), (1 : Int), (0 : Int), (0 : Int)] : List Int).getD k 0)) = w → ZcR N (.h2m0 v k) = some (.inl (.h2m0 w (k + 1))) := fun k v w hk hw => by
  show ZbY N v k = _
  unfold ZbY
  refine Zd (by omega) ?_
  rw [hw]
 refine Zbv (n := 0 + 1 + 1 + 1 + 1 + 1 + 1 + 1 + 1) (by omega) ((Zy (y := .h2m0 0 0) rfl).trans ((Zy (st 0 0 71 (by decide) (w64 (by decide) (by decide)))).trans ((Zy (st 1 71 149 (by decide) (w64 (by decide) (by decide)))).trans ((Zy (st 2 149 233 (by decide) (w64 (by decide) (by decide)))).trans ((Zy (st 3 233 234 (by decide) (w64 (by decide) (by decide)))).trans ((Zy (st 4 234 234 (by decide) (w64 (by decide) (by decide)))).trans ((Zy (st 5 234 234 (by decide) (w64 (by decide) (by decide)))).trans (ZO ?_))))))))
 show ZbY N 234 6 = _
 unfold ZbY
 refine Zw (by decide) ?_
 rw [Za3]; rfl
end Ev
end Go.Proofs.Ytjfmadhcbgdakaa
